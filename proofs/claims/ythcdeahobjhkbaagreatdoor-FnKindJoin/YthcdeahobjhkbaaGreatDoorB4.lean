/-
  Several texts in one, in their order.
-/
import Derived.Test.YthcdeahobjhkbaaGreatDoorB1
import Derived.Test.YthcdeahobjhkbaaGreatDoorB2
import Derived.Deep.RegionLaw
import Derived.Deep.QuietTactic
import Derived.BigQuiet

/-
  The specification's l2Has, KindHas: what they answer.
-/
namespace Go.Proofs.YthcdeahobjhkbaaGreatDoor
open Go.RowKit

theorem str_beq (a b : ByteArray) : (a.toList == b.toList) = decide (a = b) := by
  rw [ByteArray.toList_eq, ByteArray.toList_eq]
  by_cases h : a = b
  · subst h; simp
  · rw [decide_eq_false h, beq_eq_false_iff_ne]
    intro e
    exact h (WideShapes.bytes_inj e)

/-- What a good node of a schema has as kids. -/
theorem goodK_kids {n : Nat} {k : K (n + 1)} {d : Int} (h : goodK (n + 1) k d = true) :
    ((Kd.sort k = 1 ∨ Kd.sort k = 2 ∨ Kd.sort k = 3) ∧ Kd.names k = [] ∧ Kd.kids k = []) ∨ ((Kd.sort k = 4 ∨ Kd.sort k = 6) ∧ Kd.names k = [] ∧ ∃ x, Kd.kids k = [x]) ∨ (Kd.sort k = 5 ∧ (Kd.names k).length = (Kd.kids k).length ∧ riseB (Kd.names k) = true) := by
  simp only [goodK, Bool.and_eq_true] at h
  have ha : aloneKF (Kd.sort k) (Kd.names k) (Kd.kids k).length = true := h.1.2
  unfold aloneKF at ha
  by_cases h1 : Kd.sort k = 1
  · rw [if_pos h1] at ha; simp at ha; exact .inl ⟨.inl h1, ha.1, ha.2⟩
  rw [if_neg h1] at ha
  by_cases h2 : Kd.sort k = 2
  · rw [if_pos h2] at ha; simp at ha; exact .inl ⟨.inr (.inl h2), ha.1, ha.2⟩
  rw [if_neg h2] at ha
  by_cases h3 : Kd.sort k = 3
  · rw [if_pos h3] at ha; simp at ha; exact .inl ⟨.inr (.inr h3), ha.1, ha.2⟩
  rw [if_neg h3] at ha
  have one : ∀ l : List (K n), (l.length : Int) = 1 → ∃ x, l = [x] := by
    intro l hl
    match l, hl with
    | [x], _ => exact ⟨x, rfl⟩
    | x :: y :: r, hl => simp at hl; omega
  by_cases h4 : Kd.sort k = 4
  · rw [if_pos h4] at ha; simp only [Bool.and_eq_true, beq_iff_eq] at ha
    exact .inr (.inl ⟨.inl h4, List.eq_nil_of_length_eq_zero (by omega), one _ ha.2⟩)
  rw [if_neg h4] at ha
  by_cases h5 : Kd.sort k = 5
  · rw [if_pos h5] at ha; simp only [Bool.and_eq_true, beq_iff_eq] at ha
    exact .inr (.inr ⟨h5, by omega, ha.2⟩)
  rw [if_neg h5] at ha
  by_cases h6 : Kd.sort k = 6
  · rw [if_pos h6] at ha; simp only [Bool.and_eq_true, beq_iff_eq] at ha
    exact .inr (.inl ⟨.inr h6, List.eq_nil_of_length_eq_zero (by omega), one _ ha.2⟩)
  · rw [if_neg h6] at ha; cases ha

end Go.Proofs.YthcdeahobjhkbaaGreatDoor

/-
  Plain mathematics: when a schema fits into another one.
-/
namespace Go.Proofs.YthcdeahobjhkbaaGreatDoor
open Go.RowKit

/-- The kid at a name. -/
def atName {α : Type} : List ByteArray → List α → ByteArray → Option α
  | s :: r, k :: ks, x => if s = x then some k else atName r ks x
  | _, _, _ => none

theorem atName_no {α : Type} : ∀ (l : List ByteArray) (ks : List α) (x : ByteArray), x ∉ l → atName l ks x = none := by
  intro l
  induction l with
  | nil => intro ks x _; cases ks <;> rfl
  | cons s r ih =>
    intro ks x h
    cases ks with
    | nil => rfl
    | cons k ks =>
      rw [atName, if_neg (fun e => h (by rw [e]; exact List.mem_cons_self ..))]
      exact ih ks x (fun hm => h (List.mem_cons_of_mem _ hm))

theorem atName_yes {α : Type} : ∀ (l : List ByteArray) (ks : List α) (i : Nat) (h1 : i < l.length) (h2 : i < ks.length), Asc l → atName l ks l[i] = some ks[i] := by
  intro l
  induction l with
  | nil => intro ks i h1; exact absurd h1 (Nat.not_lt_zero _)
  | cons s r ih =>
    intro ks i h1 h2 ha
    cases ks with
    | nil => exact absurd h2 (Nat.not_lt_zero _)
    | cons k ks =>
      have ha' := List.pairwise_cons.1 ha
      cases i with
      | zero => simp [atName]
      | succ i =>
        have hi : i < r.length := by simpa using h1
        simp only [List.getElem_cons_succ]
        rw [atName, if_neg (lt_ne (ha'.1 _ (List.getElem_mem hi)))]
        exact ih ks i hi (by simpa using h2) ha'.2

/-- A name is among others. -/
def memB (s : ByteArray) (l : List ByteArray) : Bool := l.any (fun x => decide (x = s))

theorem memB_yes {s : ByteArray} {l : List ByteArray} (h : s ∈ l) : memB s l = true := List.any_eq_true.2 ⟨s, h, by simp⟩
theorem memB_no {s : ByteArray} {l : List ByteArray} (h : s ∉ l) : memB s l = false := by
  unfold memB
  rw [List.any_eq_false]
  intro x hx
  simp only [decide_eq_true_eq]
  exact fun e => h (e ▸ hx)

/-- Each name with its kid. -/
def pairAll {α : Type} (f : ByteArray → α → Bool) : List ByteArray → List α → Bool
  | s :: r, k :: ks => f s k && pairAll f r ks
  | _, _ => true

theorem pairAll_false {α : Type} {f : ByteArray → α → Bool} : ∀ {l : List ByteArray} {ks : List α} (i : Nat) (h1 : i < l.length) (h2 : i < ks.length), f l[i] ks[i] = false → pairAll f l ks = false := by
  intro l
  induction l with
  | nil => intro ks i h1; exact absurd h1 (Nat.not_lt_zero _)
  | cons s r ih =>
    intro ks i h1 h2 hf
    cases ks with
    | nil => exact absurd h2 (Nat.not_lt_zero _)
    | cons k ks =>
      cases i with
      | zero => simp only [List.getElem_cons_zero] at hf; simp [pairAll, hf]
      | succ i =>
        simp only [List.getElem_cons_succ] at hf
        simp only [pairAll, ih i (by simpa using h1) (by simpa using h2) hf, Bool.and_false]

theorem pairAll_true {α : Type} {f : ByteArray → α → Bool} : ∀ {l : List ByteArray} {ks : List α}, (∀ i (h1 : i < l.length) (h2 : i < ks.length), f l[i] ks[i] = true) → pairAll f l ks = true := by
  intro l
  induction l with
  | nil => intro ks _; cases ks <;> rfl
  | cons s r ih =>
    intro ks hf
    cases ks with
    | nil => rfl
    | cons k ks =>
      have h0 := hf 0 (by simp) (by simp)
      simp only [List.getElem_cons_zero] at h0
      rw [pairAll, h0, ih (fun i h1 h2 => by have := hf (i + 1) (by simpa using h1) (by simpa using h2); simpa using this)]
      rfl

/-- The sort of a schema. -/
def srtK : (n : Nat) → K n → Int
  | 0, _ => 0
  | _ + 1, k => Kd.sort k

/-- The first of two lists held against each other. -/
def head2 {α β : Type} (f : α → β → Bool) : List α → List β → Bool
  | y :: _, x :: _ => f y x
  | _, _ => false

def head1 {α : Type} (f : α → Bool) : List α → Bool
  | y :: _ => f y
  | _ => false

/-- The second schema (from) fits into the first (to). -/
def fitsK : (m : Nat) → K m → (n : Nat) → K n → Bool
  | 0, _, _, _ => false
  | _ + 1, _, 0, _ => false
  | m + 1, b, n + 1, a =>
    if Kd.sort b = 6 then
      if Kd.sort a = 6 then head2 (fun y x => fitsK m y n x) (Kd.kids b) (Kd.kids a) else head1 (fun y => fitsK m y (n + 1) a) (Kd.kids b)
    else if Kd.sort a = Kd.sort b then
      if Kd.sort a = 4 then head2 (fun y x => fitsK m y n x) (Kd.kids b) (Kd.kids a)
      else (Kd.names a).all (fun s => memB s (Kd.names b)) && pairAll (fun s y => match atName (Kd.names a) (Kd.kids a) s with | some x => fitsK m y n x | none => srtK m y == 6) (Kd.names b) (Kd.kids b)
    else false

theorem fitsK_mm {m n : Nat} {b : K (m + 1)} {a : K (n + 1)} {y : K m} {x : K n} (hb : Kd.sort b = 6) (ha : Kd.sort a = 6) (ky : Kd.kids b = [y]) (kx : Kd.kids a = [x]) : fitsK (m + 1) b (n + 1) a = fitsK m y n x := by
  rw [fitsK, if_pos hb, if_pos ha, ky, kx, head2]

theorem fitsK_xm {m n : Nat} {b : K (m + 1)} {a : K (n + 1)} {y : K m} (hb : Kd.sort b = 6) (ha : Kd.sort a ≠ 6) (ky : Kd.kids b = [y]) : fitsK (m + 1) b (n + 1) a = fitsK m y (n + 1) a := by
  rw [fitsK, if_pos hb, if_neg ha, ky, head1]

theorem fitsK_ll {m n : Nat} {b : K (m + 1)} {a : K (n + 1)} {y : K m} {x : K n} (hb : Kd.sort b = 4) (ha : Kd.sort a = 4) (ky : Kd.kids b = [y]) (kx : Kd.kids a = [x]) : fitsK (m + 1) b (n + 1) a = fitsK m y n x := by
  rw [fitsK, if_neg (by omega), if_pos (by omega), if_pos ha, ky, kx, head2]

theorem fitsK_no {m n : Nat} {b : K (m + 1)} {a : K (n + 1)} (hb : Kd.sort b ≠ 6) (ha : Kd.sort a ≠ Kd.sort b) : fitsK (m + 1) b (n + 1) a = false := by
  rw [fitsK, if_neg hb, if_neg ha]

theorem fitsK_leaf {m n : Nat} {b : K (m + 1)} {a : K (n + 1)} (hs : Kd.sort b = 1 ∨ Kd.sort b = 2 ∨ Kd.sort b = 3) (ha : Kd.sort a = Kd.sort b) (na : Kd.names a = []) (nb : Kd.names b = []) : fitsK (m + 1) b (n + 1) a = true := by
  rw [fitsK, if_neg (by omega), if_pos ha, if_neg (by omega), na, nb]
  rfl

/-- What a name of the second form asks. -/
def fieldFits (n : Nat) (ns : List ByteArray) (ks : List (K n)) (m : Nat) (s : ByteArray) (y : K m) : Bool :=
  match atName ns ks s with | some x => fitsK m y n x | none => srtK m y == 6

theorem fitsK_form {m n : Nat} {b : K (m + 1)} {a : K (n + 1)} (hb : Kd.sort b = 5) (ha : Kd.sort a = 5) :
    fitsK (m + 1) b (n + 1) a = ((Kd.names a).all (fun s => memB s (Kd.names b)) && pairAll (fieldFits n (Kd.names a) (Kd.kids a) m) (Kd.names b) (Kd.kids b)) := by
  rw [fitsK, if_neg (by omega), if_pos (by omega), if_neg (by omega)]
  rfl

theorem fitsK_form_no {m n : Nat} {b : K (m + 1)} {a : K (n + 1)} (hb : Kd.sort b = 5) (ha : Kd.sort a = 5) (i : Nat) (hi : i < (Kd.names a).length) (h : (Kd.names a)[i] ∉ Kd.names b) : fitsK (m + 1) b (n + 1) a = false := by
  rw [fitsK_form hb ha]
  have : (Kd.names a).all (fun s => memB s (Kd.names b)) = false := by
    rw [List.all_eq_false]
    exact ⟨_, List.getElem_mem hi, by simp [memB_no h]⟩
  rw [this]; rfl

theorem fitsK_form_bad {m n : Nat} {b : K (m + 1)} {a : K (n + 1)} (hb : Kd.sort b = 5) (ha : Kd.sort a = 5) (j : Nat) (hj : j < (Kd.names b).length) (hk : j < (Kd.kids b).length) (h : fieldFits n (Kd.names a) (Kd.kids a) m (Kd.names b)[j] (Kd.kids b)[j] = false) :
    fitsK (m + 1) b (n + 1) a = false := by
  rw [fitsK_form hb ha, pairAll_false j hj hk h, Bool.and_false]

theorem fitsK_form_yes {m n : Nat} {b : K (m + 1)} {a : K (n + 1)} (hb : Kd.sort b = 5) (ha : Kd.sort a = 5) (h1 : ∀ i (h : i < (Kd.names a).length), (Kd.names a)[i] ∈ Kd.names b)
    (h2 : ∀ j (h : j < (Kd.names b).length) (h' : j < (Kd.kids b).length), fieldFits n (Kd.names a) (Kd.kids a) m (Kd.names b)[j] (Kd.kids b)[j] = true) : fitsK (m + 1) b (n + 1) a = true := by
  rw [fitsK_form hb ha, pairAll_true h2]
  have : (Kd.names a).all (fun s => memB s (Kd.names b)) = true := by
    rw [List.all_eq_true]
    intro s hs
    obtain ⟨i, hi, rfl⟩ := List.getElem_of_mem hs
    exact memB_yes (h1 i hi)
  rw [this]; rfl

/-- Each schema that is ok fits into itself. -/
theorem fitsK_self : ∀ (n : Nat) (k : K n) (d : Int), goodK n k d = true → fitsK n k n k = true := by
  intro n
  induction n with
  | zero => intro k d h; exact absurd h (by simp [goodK])
  | succ n ih =>
    intro k d h
    have hk : ∀ x, x ∈ Kd.kids k → goodK n x (d + 1) = true := by simp only [goodK, Bool.and_eq_true] at h; exact List.all_eq_true.1 h.2
    rcases goodK_kids h with ⟨hs, hn, -⟩ | ⟨hs, -, x, hx⟩ | ⟨hs, hl, hr⟩
    · exact fitsK_leaf hs rfl hn hn
    · have hg := ih x (d + 1) (hk x (by rw [hx]; exact List.mem_cons_self ..))
      rcases hs with hs | hs
      · rw [fitsK_ll hs hs hx hx]; exact hg
      · rw [fitsK_mm hs hs hx hx]; exact hg
    · refine fitsK_form_yes hs hs (fun i hi => List.getElem_mem hi) (fun j hj hj' => ?_)
      unfold fieldFits
      rw [atName_yes _ _ j hj hj' (asc_of _ hr)]
      exact ih _ (d + 1) (hk _ (List.getElem_mem hj'))

end Go.Proofs.YthcdeahobjhkbaaGreatDoor

/-
  Plain: the join of two schemas, in schemas of as many levels as one likes.
-/
namespace Go.Proofs.YthcdeahobjhkbaaGreatDoor
open Go.RowKit

/-- A schema as one of L + 1 levels. -/
def copyL : (L n : Nat) → K n → K (L + 1)
  | _, 0, k => Empty.elim (show Empty from k)
  | 0, _ + 1, k => (⟨Kd.sort k, Kd.names k, []⟩ : Kd (K 0))
  | L + 1, n + 1, k => (⟨Kd.sort k, Kd.names k, (Kd.kids k).map (copyL L n)⟩ : Kd (K (L + 1)))

/-- It may be nothing. -/
def maybeL (L n : Nat) (k : K n) : K (L + 1) :=
  match L with
  | 0 => copyL 0 n k
  | L + 1 => if srtK n k = 6 then copyL (L + 1) n k else (⟨6, [], [copyL L n k]⟩ : Kd (K (L + 1)))

/-- Two rows that ascend, into one. -/
def mergeF {α β γ : Type} (f : α → β → Option γ) (ga : α → γ) (gb : β → γ) : Nat → List (ByteArray × α) → List (ByteArray × β) → Option (List (ByteArray × γ))
  | 0, _, _ => some []
  | _ + 1, [], [] => some []
  | k + 1, (s, x) :: xs, [] => (mergeF f ga gb k xs []).map ((s, ga x) :: ·)
  | k + 1, [], (t, y) :: ys => (mergeF f ga gb k [] ys).map ((t, gb y) :: ·)
  | k + 1, (s, x) :: xs, (t, y) :: ys =>
    if ltB s t = true then (mergeF f ga gb k xs ((t, y) :: ys)).map ((s, ga x) :: ·)
    else if ltB t s = true then (mergeF f ga gb k ((s, x) :: xs) ys).map ((t, gb y) :: ·)
    else match f x y with
      | none => none
      | some r => (mergeF f ga gb k xs ys).map ((s, r) :: ·)

def oneK6 {L : Nat} (s : Int) (x : K L) : K (L + 1) := (⟨s, [], [x]⟩ : Kd (K L))

/-- The least schema into which two fit. -/
def jnL : (L n : Nat) → K n → (m : Nat) → K m → Option (K (L + 1))
  | 0, _, _, _, _ => none
  | _ + 1, 0, _, _, _ => none
  | _ + 1, _ + 1, _, 0, _ => none
  | L + 1, n + 1, a, m + 1, b =>
    if Kd.sort a = 6 then
      match Kd.kids a with
      | [] => none
      | ka :: _ =>
        if Kd.sort b = 6 then
          match Kd.kids b with
          | [] => none
          | kb :: _ => (jnL L n ka m kb).map (oneK6 6)
        else (jnL L n ka (m + 1) b).map (oneK6 6)
    else if Kd.sort b = 6 then
      match Kd.kids b with
      | [] => none
      | kb :: _ => (jnL L (n + 1) a m kb).map (oneK6 6)
    else if Kd.sort a ≠ Kd.sort b then none
    else if Kd.sort a = 4 then
      match Kd.kids a, Kd.kids b with
      | ka :: _, kb :: _ => (jnL L n ka m kb).map (oneK6 4)
      | _, _ => none
    else (mergeF (fun x y => jnL L n x m y) (maybeL L n) (maybeL L m) ((Kd.names a).length + (Kd.names b).length) ((Kd.names a).zip (Kd.kids a)) ((Kd.names b).zip (Kd.kids b))).map
      fun l => (⟨Kd.sort a, l.map Prod.fst, l.map Prod.snd⟩ : Kd (K (L + 1)))

theorem KindIn.cp {S : Nat → Prop} {w : World} : ∀ {n : Nat} {L : Nat} {t : K n} {c0 c1 c2 : Value}, n ≤ L + 1 → KindIn S w n t c0 c1 c2 → KindIn S w (L + 1) (copyL L n t) c0 c1 c2 := by
  intro n
  induction n with
  | zero => intro L t; exact Empty.elim (show Empty from t)
  | succ n ih =>
    intro L t c0 c1 c2 hL h
    obtain ⟨h0, hwf, h1, ao, cap, rfl, hl, hc⟩ := h
    cases L with
    | zero =>
      have hn : n = 0 := by omega
      subst hn
      have hk : Kd.kids t = [] := by
        cases hk : Kd.kids t with
        | nil => rfl
        | cons x r => exact Empty.elim (show Empty from x)
      refine ⟨h0, hwf, h1, ao, cap, by rw [hk]; rfl, by show ([] : List (K 0)).length ≤ maxLen; simp, fun hne => absurd rfl hne⟩
    | succ L =>
      have e : (Kd.kids (copyL (L + 1) (n + 1) t)).length = (Kd.kids t).length := List.length_map ..
      refine ⟨h0, hwf, h1, ao, cap, by rw [e], by rw [e]; exact hl, fun hne => ?_⟩
      obtain ⟨b, off, ha, hb, hcell⟩ := hc (fun h => hne (by show (Kd.kids t).map (copyL L n) = []; rw [h]; rfl))
      refine ⟨b, off, ha, hb, fun i hi => ?_⟩
      obtain ⟨d0, d1, d2, e0, e1, e2, hk⟩ := hcell i (by rw [← e]; exact hi)
      refine ⟨d0, d1, d2, e0, e1, e2, ?_⟩
      have : (Kd.kids (copyL (L + 1) (n + 1) t))[i] = copyL L n ((Kd.kids t)[i]'(by rw [← e]; exact hi)) := List.getElem_map ..
      rw [this]
      exact ih (by omega) hk

end Go.Proofs.YthcdeahobjhkbaaGreatDoor

/-
  The specification's l3Kid: the schema of a name in a form.
-/
namespace Go.Proofs.YthcdeahobjhkbaaGreatDoor
open Go.RowKit

theorem zero3_cells {w : World} {N : Nat} (h : w.heap[N]? = some (.cells #[.int .i64 0, .slice none 0 0, .slice none 0 0] 26 (0, 0))) :
    (w.cell? ⟨N, 0, none⟩ = some (.int .i64 0) ∧ w.cell? ⟨N, 1, none⟩ = some (.slice none 0 0) ∧ w.cell? ⟨N, 2, none⟩ = some (.slice none 0 0)) ∧
      w.frozen? ⟨N, 0, none⟩ = false ∧ w.frozen? ⟨N, 1, none⟩ = false ∧ w.frozen? ⟨N, 2, none⟩ = false := by
  refine ⟨⟨?_, ?_, ?_⟩, ?_, ?_, ?_⟩ <;> simp [World.cell?, World.frozen?, h]

set_option maxRecDepth 20000 in
set_option maxHeartbeats 1000000 in
theorem l3Kid_yes (S : Nat → Prop) (n : Nat) (k : K (n + 1)) (c0 c1 c2 : Value) (x : ByteArray) (w : World) (hk : KindIn S w (n + 1) k c0 c1 c2) (hB : ∀ b, S b → b < w.heap.size)
    (i : Nat) (hi : i < (Kd.names k).length) (hik : i < (Kd.kids k).length) (hx : (Kd.names k)[i] = x) (hall : ∀ q (h : q < (Kd.names k).length), q < i → (Kd.names k)[q] ≠ x) :
    Calls Tryz.prog 48 #[.agg #[c0, c1, c2], .string x] w fun e w' => Below w.heap.size w w' ∧ ∃ g0 g1 g2, e = .returned (.tuple #[.agg #[g0, g1, g2], .bool true]) ∧ KindIn S w' n (Kd.kids k)[i] g0 g1 g2 := by
  obtain ⟨rfl, -, hk3, hk4⟩ := hk
  obtain ⟨na, nc, rfl, hnl, -, hnc⟩ := id hk3
  obtain ⟨ka, kc, rfl, hkl, hkc⟩ := id hk4
  unfold maxLen at hnl hkl
  obtain ⟨b2, off2, rfl, hbB2, hcl2⟩ := hkc (by intro h; rw [h] at hik; simp at hik)
  obtain ⟨g0, g1, g2, f0, f1, f2, hin⟩ := hcl2 i hik
  obtain ⟨u0, ua, ul, uc, va, vl, vc, rfl, rfl, rfl⟩ := hin.shape
  obtain ⟨b, off, rfl, hbB, hcl⟩ := hnc (by intro h; rw [h] at hi; simp at hi)
  obtain ⟨W0, hW0⟩ : ∃ W0, W0 = (w.alloc (.cells #[.int .i64 (Kd.sort k), .slice (some ⟨b, off, none⟩) (Kd.names k).length nc, .slice (some ⟨b2, off2, none⟩) (Kd.kids k).length kc] 26)).alloc (.cells #[.int .i64 0, .slice none 0 0, .slice none 0 0] 26) := ⟨_, rfl⟩
  have hb0 : Below w.heap.size w W0 := by rw [hW0]; exact ((Below.refl _ _).alloc (Nat.le_refl _) _).alloc (by simp) _
  have hx3 : Box3 W0 w.heap.size (.int .i64 (Kd.sort k)) (.slice (some ⟨b, off, none⟩) (Kd.names k).length nc) (.slice (some ⟨b2, off2, none⟩) (Kd.kids k).length kc) := by rw [hW0]; exact (Box3.new w _ _ _ 26).keep ((Below.refl _ _).alloc (Nat.le_refl _) _)
  have hz : W0.heap[w.heap.size + 1]? = some (.cells #[.int .i64 0, .slice none 0 0, .slice none 0 0] 26 (0, 0)) := by
    rw [hW0]
    have := heap_alloc_new (w.alloc (.cells #[.int .i64 (Kd.sort k), .slice (some ⟨b, off, none⟩) (Kd.names k).length nc, .slice (some ⟨b2, off2, none⟩) (Kd.kids k).length kc] 26)) (.cells #[.int .i64 0, .slice none 0 0, .slice none 0 0] 26)
    rw [show (w.alloc (.cells #[.int .i64 (Kd.sort k), .slice (some ⟨b, off, none⟩) (Kd.names k).length nc, .slice (some ⟨b2, off2, none⟩) (Kd.kids k).length kc] 26)).heap.size = w.heap.size + 1 by simp] at this
    exact this
  have r0 := (hb0.cell (p := ⟨b2, off2 + i * 3, none⟩) (hB b2 hbB2)).trans f0
  have r1 := (hb0.cell (p := ⟨b2, off2 + i * 3 + 1, none⟩) (hB b2 hbB2)).trans f1
  have r2 := (hb0.cell (p := ⟨b2, off2 + i * 3 + 2, none⟩) (hB b2 hbB2)).trans f2
  obtain ⟨⟨z0, z1, z2⟩, q0, q1, q2⟩ := zero3_cells hz
  obtain ⟨i0, i1, i2⟩ := hx3
  have HIN : Hid (KindIn S (put3 W0 (w.heap.size + 1) 0 (.int .i64 u0) (.slice ua ul uc) (.slice va vl vc)) n (Kd.kids k)[i] (.int .i64 u0) (.slice ua ul uc) (.slice va vl vc) ∧ Below w.heap.size w (put3 W0 (w.heap.size + 1) 0 (.int .i64 u0) (.slice ua ul uc) (.slice va vl vc))) :=
    ⟨hin.keep (fun b hb => (put3_other (by have := hB b hb; omega)).trans (hb0.block b (hB b hb))) (fun _ h => h), put3_below hb0 (by omega)⟩
  have HC : Hid (∀ j (h : j < (Kd.names k).length), W0.cell? ⟨b, off + j, none⟩ = some (.string (Kd.names k)[j])) := fun j h => (hb0.cell (p := ⟨b, off + j, none⟩) (hB b hbB)).trans (hcl j h)
  have hil : (i : Int) < ((Kd.names k).length : Int) := by omega
  have hikl : (i : Int) < ((Kd.kids k).length : Int) := by omega
  clear hk3 hk4 hnc hkc hcl hcl2 hin f0 f1 f2 hb0 hz
  go_enter Tryz.func48, Tryz.ntmps48
  go_wp2_with fail
  rw [← hW0]
  clear hW0
  go_loopw [6] (fun iv wr => ∃ j : Nat, j ≤ i ∧ iv = .int .i64 j ∧ wr = W0) (fun iv _ => i - (intOf iv).toNat)
  case atStart => exact ⟨0, Nat.zero_le _, rfl, rfl⟩
  case round =>
    obtain ⟨j, hj, rfl, rfl⟩ := hrel
    have hlt : j < (Kd.names k).length := by omega
    have hlti : (j : Int) < ((Kd.names k).length : Int) := by omega
    have f0 := HC.out j hlt
    by_cases hji : j = i
    · subst hji
      have heq : ((Kd.names k)[j].toList == x.toList) = true := by rw [str_beq]; simpa using hx
      generalize (Kd.names k)[j] = s1 at *
      go_wp2_with fail
      refine bodyPost_ret (v := .tuple #[.agg #[.int .i64 u0, .slice ua ul uc, .slice va vl vc], .bool true]) (by simp [results, Tryz.results48, go_sem, z0, z1, z2]) rfl ?_
      exact ⟨HIN.out.2, _, _, _, rfl, HIN.out.1⟩
    · have heq : ((Kd.names k)[j].toList == x.toList) = false := by rw [str_beq]; simpa using hall j hlt (by omega)
      generalize (Kd.names k)[j] = s1 at *
      go_wp2_with fail
      go_roundw
      case rel => exact ⟨j + 1, by omega, by go_num, by trivial⟩
      case measure => simp [intOf]; omega

set_option maxRecDepth 20000 in
set_option maxHeartbeats 1000000 in
theorem l3Kid_no (S : Nat → Prop) (n : Nat) (k : K (n + 1)) (c0 c1 c2 : Value) (x : ByteArray) (w : World) (hk : KindIn S w (n + 1) k c0 c1 c2) (hB : ∀ b, S b → b < w.heap.size)
    (hall : ∀ q (h : q < (Kd.names k).length), (Kd.names k)[q] ≠ x) :
    Calls Tryz.prog 48 #[.agg #[c0, c1, c2], .string x] w fun e w' => Below w.heap.size w w' ∧ e = .returned (.tuple #[.agg #[.int .i64 0, .slice none 0 0, .slice none 0 0], .bool false]) := by
  obtain ⟨rfl, -, hk3, hk4⟩ := hk
  obtain ⟨na, nc, rfl, hnl, -, hnc⟩ := id hk3
  obtain ⟨ka, kc, rfl, hkl, hkc⟩ := id hk4
  unfold maxLen at hnl hkl
  obtain ⟨W0, hW0⟩ : ∃ W0, W0 = (w.alloc (.cells #[.int .i64 (Kd.sort k), .slice na (Kd.names k).length nc, .slice ka (Kd.kids k).length kc] 26)).alloc (.cells #[.int .i64 0, .slice none 0 0, .slice none 0 0] 26) := ⟨_, rfl⟩
  have hb0 : Below w.heap.size w W0 := by rw [hW0]; exact ((Below.refl _ _).alloc (Nat.le_refl _) _).alloc (by simp) _
  have hx3 : Box3 W0 w.heap.size (.int .i64 (Kd.sort k)) (.slice na (Kd.names k).length nc) (.slice ka (Kd.kids k).length kc) := by rw [hW0]; exact (Box3.new w _ _ _ 26).keep ((Below.refl _ _).alloc (Nat.le_refl _) _)
  have hz : W0.heap[w.heap.size + 1]? = some (.cells #[.int .i64 0, .slice none 0 0, .slice none 0 0] 26 (0, 0)) := by
    rw [hW0]
    have := heap_alloc_new (w.alloc (.cells #[.int .i64 (Kd.sort k), .slice na (Kd.names k).length nc, .slice ka (Kd.kids k).length kc] 26)) (.cells #[.int .i64 0, .slice none 0 0, .slice none 0 0] 26)
    rw [show (w.alloc (.cells #[.int .i64 (Kd.sort k), .slice na (Kd.names k).length nc, .slice ka (Kd.kids k).length kc] 26)).heap.size = w.heap.size + 1 by simp] at this
    exact this
  obtain ⟨⟨z0, z1, z2⟩, q0, q1, q2⟩ := zero3_cells hz
  obtain ⟨i0, i1, i2⟩ := hx3
  have HIN : Hid (Below w.heap.size w (put3 W0 (w.heap.size + 1) 0 (.int .i64 0) (.slice none 0 0) (.slice none 0 0))) := put3_below hb0 (by omega)
  have HC : Hid (∀ j (h : j < (Kd.names k).length), ∃ b off, na = some ⟨b, off, none⟩ ∧ W0.cell? ⟨b, off + j, none⟩ = some (.string (Kd.names k)[j])) := fun j h => by
    obtain ⟨b, off, rfl, hbB, hcl⟩ := hnc (by intro h'; rw [h'] at h; simp at h)
    exact ⟨b, off, rfl, (hb0.cell (p := ⟨b, off + j, none⟩) (hB b hbB)).trans (hcl j h)⟩
  clear hk3 hk4 hnc hkc hb0 hz
  go_enter Tryz.func48, Tryz.ntmps48
  go_wp2_with fail
  rw [← hW0]
  clear hW0
  go_loopw [6] (fun iv wr => ∃ j : Nat, j ≤ (Kd.names k).length ∧ iv = .int .i64 j ∧ wr = W0) (fun iv _ => (Kd.names k).length - (intOf iv).toNat)
  case atStart => exact ⟨0, Nat.zero_le _, rfl, rfl⟩
  case round =>
    obtain ⟨j, hj, rfl, rfl⟩ := hrel
    by_cases hlt : j < (Kd.names k).length
    · have hlti : (j : Int) < ((Kd.names k).length : Int) := by omega
      obtain ⟨b, off, rfl, f0⟩ := HC.out j hlt
      have heq : ((Kd.names k)[j].toList == x.toList) = false := by rw [str_beq]; simpa using hall j hlt
      generalize (Kd.names k)[j] = s1 at *
      go_wp2_with fail
      go_roundw
      case rel => exact ⟨j + 1, by omega, by go_num, by trivial⟩
      case measure => simp [intOf]; omega
    · have hlti : ¬ (j : Int) < ((Kd.names k).length : Int) := by omega
      go_wp2_with fail
      refine bodyPost_ret (v := .tuple #[.agg #[.int .i64 0, .slice none 0 0, .slice none 0 0], .bool false]) (by simp [results, Tryz.results48, go_sem, z0, z1, z2]) rfl ?_
      exact ⟨HIN.out, rfl⟩

end Go.Proofs.YthcdeahobjhkbaaGreatDoor
