/-
  Plain: the merging of two ascending rows, name by name.
-/
import Derived.Test.YthcdeahobjhkbaaGreatDoorB4
namespace Go.Proofs.YthcdeahobjhkbaaGreatDoor
open Go.RowKit

theorem asc_ext {l l' : List ByteArray} (h : Asc l) (h' : Asc l') (e : ∀ x, x ∈ l ↔ x ∈ l') : l = l' :=
  (asc_sub l' l h h' (fun x hx => (e x).1 hx)).2 (Nat.le_antisymm (asc_sub l' l h h' (fun x hx => (e x).1 hx)).1 (asc_sub l l' h' h (fun x hx => (e x).2 hx)).1)

/-- What stands at a name. -/
def atN {α : Type} : List (ByteArray × α) → ByteArray → Option α
  | [], _ => none
  | (s, x) :: xs, t => if s = t then some x else atN xs t

/-- What a name has in the join. -/
def valJ {α β γ : Type} (f : α → β → Option γ) (ga : α → γ) (gb : β → γ) (xs : List (ByteArray × α)) (ys : List (ByteArray × β)) (s : ByteArray) : Option γ :=
  match atN xs s, atN ys s with
  | some x, some y => f x y
  | some x, none => some (ga x)
  | none, some y => some (gb y)
  | none, none => none

theorem atN_none {α : Type} : ∀ (xs : List (ByteArray × α)) (s : ByteArray), s ∉ xs.map Prod.fst → atN xs s = none := by
  intro xs
  induction xs with
  | nil => intro s _; rfl
  | cons p xs ih =>
    intro s h
    obtain ⟨t, x⟩ := p
    simp only [List.map_cons, List.mem_cons, not_or] at h
    show (if t = s then some x else atN xs s) = none
    rw [if_neg (fun e => h.1 e.symm)]
    exact ih s h.2

theorem atN_head {α : Type} (s : ByteArray) (x : α) (xs : List (ByteArray × α)) : atN ((s, x) :: xs) s = some x := if_pos rfl

theorem atN_tail {α : Type} {s t : ByteArray} (x : α) (xs : List (ByteArray × α)) (h : s ≠ t) : atN ((s, x) :: xs) t = atN xs t := if_neg h

theorem mapO_congr {γ δ : Type} {f g : γ → Option δ} : ∀ (l : List γ), (∀ x, x ∈ l → f x = g x) → l.mapM f = l.mapM g := by
  intro l
  induction l with
  | nil => intro _; rfl
  | cons a l ih =>
    intro h
    rw [List.mapM_cons, List.mapM_cons, h a (List.mem_cons_self ..), ih (fun x hx => h x (List.mem_cons_of_mem _ hx))]

theorem bl_tri : ∀ x y : List UInt8, Op.bytesLess x y = false → Op.bytesLess y x = false → x = y := by
  intro x
  induction x with
  | nil =>
    intro y h1 h2
    cases y with
    | nil => rfl
    | cons b r => simp [Op.bytesLess] at h1
  | cons a r ih =>
    intro y h1 h2
    cases y with
    | nil => simp [Op.bytesLess] at h2
    | cons b q =>
      simp only [Op.bytesLess, Bool.or_eq_false_iff, Bool.and_eq_false_iff, decide_eq_false_iff_not] at h1 h2
      have e : a = b := UInt8.le_antisymm (UInt8.not_lt.1 h2.1) (UInt8.not_lt.1 h1.1)
      subst e
      have h3 : Op.bytesLess r q = false := by simpa using h1.2
      have h4 : Op.bytesLess q r = false := by simpa using h2.2
      rw [ih q h3 h4]

theorem ltB_tri {s t : ByteArray} (h1 : ¬ ltB s t = true) (h2 : ¬ ltB t s = true) : s = t := by
  have h := bl_tri s.toList t.toList (by simpa [ltB] using h1) (by simpa [ltB] using h2)
  have h' : s.data.toList = t.data.toList := by rw [ByteArray.toList_eq, ByteArray.toList_eq] at h; exact h
  cases s; cases t
  simp only [ByteArray.mk.injEq]
  exact Array.toList_inj.1 h'

/-- The names of the join. -/
def merN : Nat → List ByteArray → List ByteArray → List ByteArray
  | 0, _, _ => []
  | _ + 1, [], [] => []
  | k + 1, s :: xs, [] => s :: merN k xs []
  | k + 1, [], t :: ys => t :: merN k [] ys
  | k + 1, s :: xs, t :: ys =>
    if ltB s t = true then s :: merN k xs (t :: ys)
    else if ltB t s = true then t :: merN k (s :: xs) ys
    else s :: merN k xs ys

theorem merN_mem : ∀ (k : Nat) (xs ys : List ByteArray), xs.length + ys.length ≤ k → ∀ u, u ∈ merN k xs ys ↔ u ∈ xs ∨ u ∈ ys := by
  intro k
  induction k with
  | zero =>
    intro xs ys h u
    have hx : xs = [] := List.eq_nil_of_length_eq_zero (by omega)
    have hy : ys = [] := List.eq_nil_of_length_eq_zero (by omega)
    subst hx hy
    simp [merN]
  | succ k ih =>
    intro xs ys h u
    cases xs with
    | nil =>
      cases ys with
      | nil => simp [merN]
      | cons t ys => simp [merN, ih [] ys (by simp at h ⊢; omega)]
    | cons s xs =>
      cases ys with
      | nil => simp [merN, ih xs [] (by simp at h ⊢; omega)]
      | cons t ys =>
        unfold merN
        by_cases h1 : ltB s t = true
        · rw [if_pos h1, List.mem_cons, ih xs (t :: ys) (by simp at h ⊢; omega)]
          simp only [List.mem_cons]
          exact ⟨fun e => e.elim (fun a => .inl (.inl a)) (fun a => a.elim (fun b => .inl (.inr b)) .inr), fun e => e.elim (fun a => a.elim .inl (fun b => .inr (.inl b))) (fun a => .inr (.inr a))⟩
        · rw [if_neg h1]
          by_cases h2 : ltB t s = true
          · rw [if_pos h2, List.mem_cons, ih (s :: xs) ys (by simp at h ⊢; omega)]
            simp only [List.mem_cons]
            exact ⟨fun e => e.elim (fun a => .inr (.inl a)) (fun a => a.elim .inl (fun b => .inr (.inr b))), fun e => e.elim (fun a => .inr (.inl a)) (fun a => a.elim .inl (fun b => .inr (.inr b)))⟩
          · rw [if_neg h2, List.mem_cons, ih xs ys (by simp at h ⊢; omega)]
            have e := ltB_tri h1 h2
            subst e
            simp only [List.mem_cons]
            exact ⟨fun e => e.elim (fun a => .inl (.inl a)) (fun a => a.elim (fun b => .inl (.inr b)) (fun b => .inr (.inr b))), fun e => e.elim (fun a => a.elim .inl (fun b => .inr (.inl b))) (fun a => a.elim .inl (fun b => .inr (.inr b)))⟩

theorem asc_cons {s : ByteArray} {l : List ByteArray} (h : ∀ u, u ∈ l → ltB s u = true) (hl : Asc l) : Asc (s :: l) := List.pairwise_cons.2 ⟨h, hl⟩
theorem asc_head {s : ByteArray} {l : List ByteArray} (h : Asc (s :: l)) : ∀ u, u ∈ l → ltB s u = true := (List.pairwise_cons.1 h).1
theorem asc_tail {s : ByteArray} {l : List ByteArray} (h : Asc (s :: l)) : Asc l := (List.pairwise_cons.1 h).2

theorem merN_asc : ∀ (k : Nat) (xs ys : List ByteArray), xs.length + ys.length ≤ k → Asc xs → Asc ys → Asc (merN k xs ys) := by
  intro k
  induction k with
  | zero => intro xs ys _ _ _; exact List.Pairwise.nil
  | succ k ih =>
    intro xs ys h hx hy
    cases xs with
    | nil =>
      cases ys with
      | nil => exact List.Pairwise.nil
      | cons t ys =>
        have hl : ([] : List ByteArray).length + ys.length ≤ k := by simp at h ⊢; omega
        exact asc_cons (fun u hu => asc_head hy u (((merN_mem k [] ys hl u).1 hu).elim (fun e => by cases e) id)) (ih [] ys hl hx (asc_tail hy))
    | cons s xs =>
      cases ys with
      | nil =>
        have hl : xs.length + ([] : List ByteArray).length ≤ k := by simp at h ⊢; omega
        exact asc_cons (fun u hu => asc_head hx u (((merN_mem k xs [] hl u).1 hu).elim id (fun e => by cases e))) (ih xs [] hl (asc_tail hx) hy)
      | cons t ys =>
        unfold merN
        by_cases h1 : ltB s t = true
        · have hl : xs.length + (t :: ys).length ≤ k := by simp at h ⊢; omega
          rw [if_pos h1]
          refine asc_cons (fun u hu => ?_) (ih xs (t :: ys) hl (asc_tail hx) hy)
          rcases (merN_mem k xs (t :: ys) hl u).1 hu with e | e
          · exact asc_head hx u e
          · rcases List.mem_cons.1 e with e | e
            · rw [e]; exact h1
            · exact lt_tr h1 (asc_head hy u e)
        · rw [if_neg h1]
          by_cases h2 : ltB t s = true
          · have hl : (s :: xs).length + ys.length ≤ k := by simp at h ⊢; omega
            rw [if_pos h2]
            refine asc_cons (fun u hu => ?_) (ih (s :: xs) ys hl hx (asc_tail hy))
            rcases (merN_mem k (s :: xs) ys hl u).1 hu with e | e
            · rcases List.mem_cons.1 e with e | e
              · rw [e]; exact h2
              · exact lt_tr h2 (asc_head hx u e)
            · exact asc_head hy u e
          · have hl : xs.length + ys.length ≤ k := by simp at h ⊢; omega
            rw [if_neg h2]
            have e := ltB_tri h1 h2
            refine asc_cons (fun u hu => ?_) (ih xs ys hl (asc_tail hx) (asc_tail hy))
            rcases (merN_mem k xs ys hl u).1 hu with e' | e'
            · exact asc_head hx u e'
            · rw [e]; exact asc_head hy u e'

/-- One name with what it has. -/
def atJ {α β γ : Type} (f : α → β → Option γ) (ga : α → γ) (gb : β → γ) (xs : List (ByteArray × α)) (ys : List (ByteArray × β)) (s : ByteArray) : Option (ByteArray × γ) := (valJ f ga gb xs ys s).map fun z => (s, z)

theorem merge_eq {α β γ : Type} (f : α → β → Option γ) (ga : α → γ) (gb : β → γ) : ∀ (k : Nat) (xs : List (ByteArray × α)) (ys : List (ByteArray × β)), xs.length + ys.length ≤ k → Asc (xs.map Prod.fst) → Asc (ys.map Prod.fst) →
    mergeF f ga gb k xs ys = (merN k (xs.map Prod.fst) (ys.map Prod.fst)).mapM (atJ f ga gb xs ys) := by
  intro k
  induction k with
  | zero => intro xs ys _ _ _; rfl
  | succ k ih =>
    intro xs ys h hx hy
    cases xs with
    | nil =>
      cases ys with
      | nil => rfl
      | cons p ys =>
        obtain ⟨t, y⟩ := p
        have hl : ([] : List (ByteArray × α)).length + ys.length ≤ k := by simp at h ⊢; omega
        have hm := merN_mem k [] (ys.map Prod.fst) (by simpa using hl)
        show (mergeF f ga gb k [] ys).map _ = (t :: merN k [] (ys.map Prod.fst)).mapM _
        rw [ih [] ys hl hx (asc_tail hy), List.mapM_cons]
        have e1 : atJ f ga gb [] ((t, y) :: ys) t = some (t, gb y) := by simp [atJ, valJ, atN]
        have e2 : (merN k [] (ys.map Prod.fst)).mapM (atJ f ga gb [] ys) = (merN k [] (ys.map Prod.fst)).mapM (atJ f ga gb [] ((t, y) :: ys)) := mapO_congr _ fun u hu => by
          have hne : t ≠ u := lt_ne (asc_head hy u (((hm u).1 hu).elim (fun e => by cases e) id))
          unfold atJ valJ
          rw [atN_tail y ys hne]
        rw [e1, List.map_nil, e2]
        cases (merN k [] (ys.map Prod.fst)).mapM (atJ f ga gb [] ((t, y) :: ys)) <;> rfl
    | cons p xs =>
      obtain ⟨s, x⟩ := p
      cases ys with
      | nil =>
        have hl : xs.length + ([] : List (ByteArray × β)).length ≤ k := by simp at h ⊢; omega
        have hm := merN_mem k (xs.map Prod.fst) [] (by simpa using hl)
        show (mergeF f ga gb k xs []).map _ = (s :: merN k (xs.map Prod.fst) []).mapM _
        rw [ih xs [] hl (asc_tail hx) hy, List.mapM_cons]
        have e1 : atJ f ga gb ((s, x) :: xs) [] s = some (s, ga x) := by simp [atJ, valJ, atN]
        have e2 : (merN k (xs.map Prod.fst) []).mapM (atJ f ga gb xs []) = (merN k (xs.map Prod.fst) []).mapM (atJ f ga gb ((s, x) :: xs) []) := mapO_congr _ fun u hu => by
          have hne : s ≠ u := lt_ne (asc_head hx u (((hm u).1 hu).elim id (fun e => by cases e)))
          unfold atJ valJ
          rw [atN_tail x xs hne]
        rw [e1, List.map_nil, e2]
        cases (merN k (xs.map Prod.fst) []).mapM (atJ f ga gb ((s, x) :: xs) []) <;> rfl
      | cons q ys =>
        obtain ⟨t, y⟩ := q
        have hxs : ∀ u, u ∈ xs.map Prod.fst → ltB s u = true := asc_head hx
        have hys : ∀ u, u ∈ ys.map Prod.fst → ltB t u = true := asc_head hy
        by_cases h1 : ltB s t = true
        · have hl : xs.length + ((t, y) :: ys).length ≤ k := by simp at h ⊢; omega
          have hm := merN_mem k (xs.map Prod.fst) (t :: ys.map Prod.fst) (by simpa using hl)
          have hsn : s ∉ t :: ys.map Prod.fst := fun e => by
            rcases List.mem_cons.1 e with e | e
            · exact lt_ne h1 e
            · exact lt_ne (lt_tr h1 (hys s e)) rfl
          have el : mergeF f ga gb (k + 1) ((s, x) :: xs) ((t, y) :: ys) = (mergeF f ga gb k xs ((t, y) :: ys)).map ((s, ga x) :: ·) := by simp [mergeF, h1]
          have er : merN (k + 1) (s :: xs.map Prod.fst) (t :: ys.map Prod.fst) = s :: merN k (xs.map Prod.fst) (t :: ys.map Prod.fst) := by simp [merN, h1]
          show mergeF f ga gb (k + 1) ((s, x) :: xs) ((t, y) :: ys) = (merN (k + 1) (s :: xs.map Prod.fst) (t :: ys.map Prod.fst)).mapM _
          rw [el, er, ih xs ((t, y) :: ys) hl (asc_tail hx) hy, List.mapM_cons]
          have e1 : atJ f ga gb ((s, x) :: xs) ((t, y) :: ys) s = some (s, ga x) := by
            unfold atJ valJ
            rw [atN_head, atN_none ((t, y) :: ys) s hsn]; rfl
          have e2 : (merN k (xs.map Prod.fst) (t :: ys.map Prod.fst)).mapM (atJ f ga gb xs ((t, y) :: ys)) = (merN k (xs.map Prod.fst) (t :: ys.map Prod.fst)).mapM (atJ f ga gb ((s, x) :: xs) ((t, y) :: ys)) := mapO_congr _ fun u hu => by
            have hne : s ≠ u := by
              rcases (hm u).1 hu with e | e
              · exact lt_ne (hxs u e)
              · exact fun e' => hsn (e' ▸ e)
            unfold atJ valJ
            rw [atN_tail x xs hne]
          rw [e1, show (((t, y) :: ys).map Prod.fst) = t :: ys.map Prod.fst from rfl, e2]
          cases (merN k (xs.map Prod.fst) (t :: ys.map Prod.fst)).mapM (atJ f ga gb ((s, x) :: xs) ((t, y) :: ys)) <;> rfl
        · by_cases h2 : ltB t s = true
          · have hl : ((s, x) :: xs).length + ys.length ≤ k := by simp at h ⊢; omega
            have hm := merN_mem k (s :: xs.map Prod.fst) (ys.map Prod.fst) (by simpa using hl)
            have htn : t ∉ s :: xs.map Prod.fst := fun e => by
              rcases List.mem_cons.1 e with e | e
              · exact lt_ne h2 e
              · exact lt_ne (lt_tr h2 (hxs t e)) rfl
            have el : mergeF f ga gb (k + 1) ((s, x) :: xs) ((t, y) :: ys) = (mergeF f ga gb k ((s, x) :: xs) ys).map ((t, gb y) :: ·) := by simp [mergeF, h1, h2]
            have er : merN (k + 1) (s :: xs.map Prod.fst) (t :: ys.map Prod.fst) = t :: merN k (s :: xs.map Prod.fst) (ys.map Prod.fst) := by simp [merN, h1, h2]
            show mergeF f ga gb (k + 1) ((s, x) :: xs) ((t, y) :: ys) = (merN (k + 1) (s :: xs.map Prod.fst) (t :: ys.map Prod.fst)).mapM _
            rw [el, er, ih ((s, x) :: xs) ys hl hx (asc_tail hy), List.mapM_cons]
            have e1 : atJ f ga gb ((s, x) :: xs) ((t, y) :: ys) t = some (t, gb y) := by
              unfold atJ valJ
              rw [atN_head, atN_none ((s, x) :: xs) t htn]; rfl
            have e2 : (merN k (s :: xs.map Prod.fst) (ys.map Prod.fst)).mapM (atJ f ga gb ((s, x) :: xs) ys) = (merN k (s :: xs.map Prod.fst) (ys.map Prod.fst)).mapM (atJ f ga gb ((s, x) :: xs) ((t, y) :: ys)) := mapO_congr _ fun u hu => by
              have hne : t ≠ u := by
                rcases (hm u).1 hu with e | e
                · exact fun e' => htn (e' ▸ e)
                · exact lt_ne (hys u e)
              unfold atJ valJ
              rw [atN_tail y ys hne]
            rw [e1, show (((s, x) :: xs).map Prod.fst) = s :: xs.map Prod.fst from rfl, e2]
            cases (merN k (s :: xs.map Prod.fst) (ys.map Prod.fst)).mapM (atJ f ga gb ((s, x) :: xs) ((t, y) :: ys)) <;> rfl
          · have hl : xs.length + ys.length ≤ k := by simp at h ⊢; omega
            have e := ltB_tri h1 h2
            subst e
            have hm := merN_mem k (xs.map Prod.fst) (ys.map Prod.fst) (by simpa using hl)
            have el : mergeF f ga gb (k + 1) ((s, x) :: xs) ((s, y) :: ys) = match f x y with
                | none => none
                | some r => (mergeF f ga gb k xs ys).map ((s, r) :: ·) := by
              simp only [mergeF, if_neg h1]
              cases f x y <;> rfl
            have er : merN (k + 1) (s :: xs.map Prod.fst) (s :: ys.map Prod.fst) = s :: merN k (xs.map Prod.fst) (ys.map Prod.fst) := by simp [merN, h1]
            show mergeF f ga gb (k + 1) ((s, x) :: xs) ((s, y) :: ys) = (merN (k + 1) (s :: xs.map Prod.fst) (s :: ys.map Prod.fst)).mapM _
            rw [el, er, ih xs ys hl (asc_tail hx) (asc_tail hy), List.mapM_cons]
            have e1 : atJ f ga gb ((s, x) :: xs) ((s, y) :: ys) s = (f x y).map fun z => (s, z) := by
              unfold atJ valJ
              rw [atN_head, atN_head]
            have e2 : (merN k (xs.map Prod.fst) (ys.map Prod.fst)).mapM (atJ f ga gb xs ys) = (merN k (xs.map Prod.fst) (ys.map Prod.fst)).mapM (atJ f ga gb ((s, x) :: xs) ((s, y) :: ys)) := mapO_congr _ fun u hu => by
              have hne : s ≠ u := by
                rcases (hm u).1 hu with e | e
                · exact lt_ne (hxs u e)
                · exact lt_ne (hys u e)
              unfold atJ valJ
              rw [atN_tail x xs hne, atN_tail y ys hne]
            rw [e1, e2]
            cases f x y with
            | none => rfl
            | some r => cases (merN k (xs.map Prod.fst) (ys.map Prod.fst)).mapM (atJ f ga gb ((s, x) :: xs) ((s, y) :: ys)) <;> rfl

end Go.Proofs.YthcdeahobjhkbaaGreatDoor
