/-
 Several texts in one, in their order.
-/
import Derived.Test.YtpalkdcgbbbmeaaGreatDoorB1
import Derived.Test.YtpalkdcgbbbmeaaGreatDoorB7
import Derived.Deep.RegionLaw
import Derived.Deep.QuietTactic
import Derived.BigQuiet

/-
 The specification's l2Has, KindHas: what they answer.
-/
namespace Go.Proofs.YtpalkdcgbbbmeaaGreatDoor
open Go.RowKit

theorem str_beq (a b : ByteArray) : (a.toList == b.toList) = decide (a = b) := by
 rw [ByteArray.toList_eq, ByteArray.toList_eq]
 by_cases h : a = b
 · subst h; simp
 ·
  rw [decide_eq_false h, beq_eq_false_iff_ne]
  intro e
  exact h (WideShapes.bytes_inj e)

theorem goodK_kids {n : Nat} {k : K (n + 1)} {d : Int} (h : goodK (n + 1) k d = true) :
  ((Kd.sort k = 1 ∨ Kd.sort k = 2 ∨ Kd.sort k = 3) ∧ Kd.names k = [] ∧ Kd.kids k = []) ∨ ((Kd.sort k = 4 ∨ Kd.sort k = 6) ∧ Kd.names k = [] ∧ ∃ x, Kd.kids k = [x]) ∨ (Kd.sort k = 5 ∧ (Kd.names k).length = (Kd.kids k).length ∧ riseB (Kd.names k) = true) := by
 simp only [goodK, Bool.and_eq_true] at h
 have ha : aloneKF (Kd.sort k) (Kd.names k) (Kd.kids k).length = true := h.1.2
 unfold aloneKF at ha
 by_cases h1 : Kd.sort k = 1
 · rw [if_pos h1] at ha; simp at ha; exact .inl ⟨.inl h1, ha.1, ha.2⟩
 rw [if_neg h1] at ha
 by_cases h2 : Kd.sort k = 2
 · rw [if_pos h2] at ha; simp at ha; exact .inl ⟨.inr (.inl h2), ha.1, ha.2⟩
 rw [if_neg h2] at ha
 by_cases h3 : Kd.sort k = 3
 · rw [if_pos h3] at ha; simp at ha; exact .inl ⟨.inr (.inr h3), ha.1, ha.2⟩
 rw [if_neg h3] at ha
 have one : ∀ l : List (K n), (l.length : Int) = 1 → ∃ x, l = [x] := by
  intro l hl
  match l, hl with
  | [x], _ => exact ⟨x, rfl⟩
  | x :: y :: r, hl => simp at hl; omega
 by_cases h4 : Kd.sort k = 4
 ·
  rw [if_pos h4] at ha; simp only [Bool.and_eq_true, beq_iff_eq] at ha
  exact .inr (.inl ⟨.inl h4, List.eq_nil_of_length_eq_zero (by omega), one _ ha.2⟩)
 rw [if_neg h4] at ha
 by_cases h5 : Kd.sort k = 5
 ·
  rw [if_pos h5] at ha; simp only [Bool.and_eq_true, beq_iff_eq] at ha
  exact .inr (.inr ⟨h5, by omega, ha.2⟩)
 rw [if_neg h5] at ha
 by_cases h6 : Kd.sort k = 6
 ·
  rw [if_pos h6] at ha; simp only [Bool.and_eq_true, beq_iff_eq] at ha
  exact .inr (.inl ⟨.inr h6, List.eq_nil_of_length_eq_zero (by omega), one _ ha.2⟩)
 · rw [if_neg h6] at ha; cases ha

theorem goodT_kids {n : Nat} {t : T (n + 1)} {d : Int} (h : goodT (n + 1) t d = true) :
  ((Nd.sort t = 1 ∨ Nd.sort t = 2 ∨ Nd.sort t = 3) → Nd.names t = [] ∧ Nd.kids t = []) ∧ ((Nd.sort t = 4 ∨ Nd.sort t = 6) → Nd.names t = []) ∧ (Nd.sort t = 5 → (Nd.names t).length = (Nd.kids t).length ∧ riseB (Nd.names t) = true) := by
 simp only [goodT, Bool.and_eq_true] at h
 have ha : aloneF (Nd.sort t) (Nd.num t) (Nd.text t) (Nd.names t) (Nd.kids t).length = true := h.1.2
 refine ⟨fun hs => ?_, fun hs => ?_, fun hs => ?_⟩
 ·
  unfold aloneF at ha
  rcases hs with hs | hs | hs
  · rw [hs] at ha; simp at ha; exact ⟨ha.1.2, ha.2⟩
  · rw [hs] at ha; simp at ha; exact ⟨ha.1.2, ha.2⟩
  · rw [hs] at ha; simp at ha; exact ⟨ha.1.2, ha.2⟩
 ·
  unfold aloneF at ha
  rcases hs with hs | hs
  · rw [hs] at ha; simp at ha; exact ha.1.2
  · rw [hs] at ha; simp at ha; exact ha.1.2
 ·
  unfold aloneF at ha
  rw [hs] at ha; simp at ha; exact ⟨by omega, ha.2⟩

def HasSSaid (n : Nat) : Prop := ∀ (S S' : Nat → Prop) (m : Nat) (k : K n) (t : T m) (c0 c1 c2 e0 e1 e2 e3 e4 : Value) (d d' : Int) (w : World), KindIn S w n k c0 c1 c2 → TreeIn S' w m t e0 e1 e2 e3 e4 → (∀ b, S b → b < w.heap.size) → (∀ b, S' b → b < w.heap.size) →
 goodK n k d = true → goodT m t d' = true →
 Calls Tryz.prog 33 #[.agg #[c0, c1, c2], .agg #[e0, e1, e2, e3, e4]] w fun e w' => e = .returned (.bool (hasK n k m t)) ∧ Below w.heap.size w w'

theorem hasK_no {n m : Nat} {k : K (n + 1)} {t : T (m + 1)} (h : Kd.sort k ≠ Nd.sort t ∨ Kd.names k ≠ Nd.names t) : hasK (n + 1) k (m + 1) t = false := by
 simp only [hasK]
 rcases h with h | h
 · rw [show (Kd.sort k == Nd.sort t) = false by simpa using h]; simp
 · rw [decide_eq_false h]; simp

theorem names_ne {a b : List ByteArray} (i : Nat) (h1 : i < a.length) (h2 : i < b.length) (h : a[i] ≠ b[i]) : a ≠ b := by
 intro e; subst e; exact h rfl

theorem names_eq {a b : List ByteArray} (hl : a.length = b.length) (h : ∀ i (h1 : i < a.length) (h2 : i < b.length), a[i] = b[i]) : a = b := List.ext_getElem hl (fun i h1 h2 => h i h1 h2)

end Go.Proofs.YtpalkdcgbbbmeaaGreatDoor

/-
 Plain mathematics: when a schema fits into another one.
-/
namespace Go.Proofs.YtpalkdcgbbbmeaaGreatDoor
open Go.RowKit

def atName {α : Type} : List ByteArray → List α → ByteArray → Option α
 | s :: r, k :: ks, x => if s = x then some k else atName r ks x
 | _, _, _ => none

theorem atName_no {α : Type} : ∀ (l : List ByteArray) (ks : List α) (x : ByteArray), x ∉ l → atName l ks x = none := by
 intro l
 induction l with
 | nil => intro ks x _; cases ks <;> rfl
 | cons s r ih =>
  intro ks x h
  cases ks with
  | nil => rfl
  | cons k ks =>
   rw [atName, if_neg (fun e => h (by rw [e]; exact List.mem_cons_self ..))]
   exact ih ks x (fun hm => h (List.mem_cons_of_mem _ hm))

theorem atName_yes {α : Type} : ∀ (l : List ByteArray) (ks : List α) (i : Nat) (h1 : i < l.length) (h2 : i < ks.length), Asc l → atName l ks l[i] = some ks[i] := by
 intro l
 induction l with
 | nil => intro ks i h1; exact absurd h1 (Nat.not_lt_zero _)
 | cons s r ih =>
  intro ks i h1 h2 ha
  cases ks with
  | nil => exact absurd h2 (Nat.not_lt_zero _)
  | cons k ks =>
   have ha' := List.pairwise_cons.1 ha
   cases i with
   | zero => simp [atName]
   | succ i =>
    have hi : i < r.length := by simpa using h1
    simp only [List.getElem_cons_succ]
    rw [atName, if_neg (lt_ne (ha'.1 _ (List.getElem_mem hi)))]
    exact ih ks i hi (by simpa using h2) ha'.2

def memB (s : ByteArray) (l : List ByteArray) : Bool := l.any (fun x => decide (x = s))

theorem memB_yes {s : ByteArray} {l : List ByteArray} (h : s ∈ l) : memB s l = true := List.any_eq_true.2 ⟨s, h, by simp⟩

theorem memB_no {s : ByteArray} {l : List ByteArray} (h : s ∉ l) : memB s l = false := by
 unfold memB
 rw [List.any_eq_false]
 intro x hx
 simp only [decide_eq_true_eq]
 exact fun e => h (e ▸ hx)

def pairAll {α : Type} (f : ByteArray → α → Bool) : List ByteArray → List α → Bool
 | s :: r, k :: ks => f s k && pairAll f r ks
 | _, _ => true

theorem pairAll_false {α : Type} {f : ByteArray → α → Bool} : ∀ {l : List ByteArray} {ks : List α} (i : Nat) (h1 : i < l.length) (h2 : i < ks.length), f l[i] ks[i] = false → pairAll f l ks = false := by
 intro l
 induction l with
 | nil => intro ks i h1; exact absurd h1 (Nat.not_lt_zero _)
 | cons s r ih =>
  intro ks i h1 h2 hf
  cases ks with
  | nil => exact absurd h2 (Nat.not_lt_zero _)
  | cons k ks =>
   cases i with
   | zero => simp only [List.getElem_cons_zero] at hf; simp [pairAll, hf]
   | succ i =>
    simp only [List.getElem_cons_succ] at hf
    simp only [pairAll, ih i (by simpa using h1) (by simpa using h2) hf, Bool.and_false]

theorem pairAll_true {α : Type} {f : ByteArray → α → Bool} : ∀ {l : List ByteArray} {ks : List α}, (∀ i (h1 : i < l.length) (h2 : i < ks.length), f l[i] ks[i] = true) → pairAll f l ks = true := by
 intro l
 induction l with
 | nil => intro ks _; cases ks <;> rfl
 | cons s r ih =>
  intro ks hf
  cases ks with
  | nil => rfl
  | cons k ks =>
   have h0 := hf 0 (by simp) (by simp)
   simp only [List.getElem_cons_zero] at h0
   rw [pairAll, h0, ih (fun i h1 h2 => by have := hf (i + 1) (by simpa using h1) (by simpa using h2); simpa using this)]
   rfl

def srtK : (n : Nat) → K n → Int
 | 0, _ => 0
 | _ + 1, k => Kd.sort k

def head2 {α β : Type} (f : α → β → Bool) : List α → List β → Bool
 | y :: _, x :: _ => f y x
 | _, _ => false

def head1 {α : Type} (f : α → Bool) : List α → Bool
 | y :: _ => f y
 | _ => false

def fitsK : (m : Nat) → K m → (n : Nat) → K n → Bool
 | 0, _, _, _ => false
 | _ + 1, _, 0, _ => false
 | m + 1, b, n + 1, a =>
  if Kd.sort b = 6 then
   if Kd.sort a = 6 then head2 (fun y x => fitsK m y n x) (Kd.kids b) (Kd.kids a) else head1 (fun y => fitsK m y (n + 1) a) (Kd.kids b)
  else if Kd.sort a = Kd.sort b then
   if Kd.sort a = 4 then head2 (fun y x => fitsK m y n x) (Kd.kids b) (Kd.kids a)
   else (Kd.names a).all (fun s => memB s (Kd.names b)) && pairAll (fun s y => match atName (Kd.names a) (Kd.kids a) s with | some x => fitsK m y n x | none => srtK m y == 6) (Kd.names b) (Kd.kids b)
  else false

theorem fitsK_mm {m n : Nat} {b : K (m + 1)} {a : K (n + 1)} {y : K m} {x : K n} (hb : Kd.sort b = 6) (ha : Kd.sort a = 6) (ky : Kd.kids b = [y]) (kx : Kd.kids a = [x]) : fitsK (m + 1) b (n + 1) a = fitsK m y n x := by
 rw [fitsK, if_pos hb, if_pos ha, ky, kx, head2]

theorem fitsK_xm {m n : Nat} {b : K (m + 1)} {a : K (n + 1)} {y : K m} (hb : Kd.sort b = 6) (ha : Kd.sort a ≠ 6) (ky : Kd.kids b = [y]) : fitsK (m + 1) b (n + 1) a = fitsK m y (n + 1) a := by
 rw [fitsK, if_pos hb, if_neg ha, ky, head1]

theorem fitsK_ll {m n : Nat} {b : K (m + 1)} {a : K (n + 1)} {y : K m} {x : K n} (hb : Kd.sort b = 4) (ha : Kd.sort a = 4) (ky : Kd.kids b = [y]) (kx : Kd.kids a = [x]) : fitsK (m + 1) b (n + 1) a = fitsK m y n x := by
 rw [fitsK, if_neg (by omega), if_pos (by omega), if_pos ha, ky, kx, head2]

theorem fitsK_no {m n : Nat} {b : K (m + 1)} {a : K (n + 1)} (hb : Kd.sort b ≠ 6) (ha : Kd.sort a ≠ Kd.sort b) : fitsK (m + 1) b (n + 1) a = false := by
 rw [fitsK, if_neg hb, if_neg ha]

theorem fitsK_leaf {m n : Nat} {b : K (m + 1)} {a : K (n + 1)} (hs : Kd.sort b = 1 ∨ Kd.sort b = 2 ∨ Kd.sort b = 3) (ha : Kd.sort a = Kd.sort b) (na : Kd.names a = []) (nb : Kd.names b = []) : fitsK (m + 1) b (n + 1) a = true := by
 rw [fitsK, if_neg (by omega), if_pos ha, if_neg (by omega), na, nb]
 rfl

def fieldFits (n : Nat) (ns : List ByteArray) (ks : List (K n)) (m : Nat) (s : ByteArray) (y : K m) : Bool :=
 match atName ns ks s with | some x => fitsK m y n x | none => srtK m y == 6

theorem fitsK_form {m n : Nat} {b : K (m + 1)} {a : K (n + 1)} (hb : Kd.sort b = 5) (ha : Kd.sort a = 5) :
  fitsK (m + 1) b (n + 1) a = ((Kd.names a).all (fun s => memB s (Kd.names b)) && pairAll (fieldFits n (Kd.names a) (Kd.kids a) m) (Kd.names b) (Kd.kids b)) := by
 rw [fitsK, if_neg (by omega), if_pos (by omega), if_neg (by omega)]
 rfl

theorem fitsK_form_no {m n : Nat} {b : K (m + 1)} {a : K (n + 1)} (hb : Kd.sort b = 5) (ha : Kd.sort a = 5) (i : Nat) (hi : i < (Kd.names a).length) (h : (Kd.names a)[i] ∉ Kd.names b) : fitsK (m + 1) b (n + 1) a = false := by
 rw [fitsK_form hb ha]
 have : (Kd.names a).all (fun s => memB s (Kd.names b)) = false := by
  rw [List.all_eq_false]
  exact ⟨_, List.getElem_mem hi, by simp [memB_no h]⟩
 rw [this]; rfl

theorem fitsK_form_bad {m n : Nat} {b : K (m + 1)} {a : K (n + 1)} (hb : Kd.sort b = 5) (ha : Kd.sort a = 5) (j : Nat) (hj : j < (Kd.names b).length) (hk : j < (Kd.kids b).length) (h : fieldFits n (Kd.names a) (Kd.kids a) m (Kd.names b)[j] (Kd.kids b)[j] = false) :
  fitsK (m + 1) b (n + 1) a = false := by
 rw [fitsK_form hb ha, pairAll_false j hj hk h, Bool.and_false]

theorem fitsK_form_yes {m n : Nat} {b : K (m + 1)} {a : K (n + 1)} (hb : Kd.sort b = 5) (ha : Kd.sort a = 5) (h1 : ∀ i (h : i < (Kd.names a).length), (Kd.names a)[i] ∈ Kd.names b)
  (h2 : ∀ j (h : j < (Kd.names b).length) (h' : j < (Kd.kids b).length), fieldFits n (Kd.names a) (Kd.kids a) m (Kd.names b)[j] (Kd.kids b)[j] = true) : fitsK (m + 1) b (n + 1) a = true := by
 rw [fitsK_form hb ha, pairAll_true h2]
 have : (Kd.names a).all (fun s => memB s (Kd.names b)) = true := by
  rw [List.all_eq_true]
  intro s hs
  obtain ⟨i, hi, rfl⟩ := List.getElem_of_mem hs
  exact memB_yes (h1 i hi)
 rw [this]; rfl

theorem fitsK_self : ∀ (n : Nat) (k : K n) (d : Int), goodK n k d = true → fitsK n k n k = true := by
 intro n
 induction n with
 | zero => intro k d h; exact absurd h (by simp [goodK])
 | succ n ih =>
  intro k d h
  have hk : ∀ x, x ∈ Kd.kids k → goodK n x (d + 1) = true := by simp only [goodK, Bool.and_eq_true] at h; exact List.all_eq_true.1 h.2
  rcases goodK_kids h with ⟨hs, hn, -⟩ | ⟨hs, -, x, hx⟩ | ⟨hs, hl, hr⟩
  · exact fitsK_leaf hs rfl hn hn
  ·
   have hg := ih x (d + 1) (hk x (by rw [hx]; exact List.mem_cons_self ..))
   rcases hs with hs | hs
   · rw [fitsK_ll hs hs hx hx]; exact hg
   · rw [fitsK_mm hs hs hx hx]; exact hg
  ·
   refine fitsK_form_yes hs hs (fun i hi => List.getElem_mem hi) (fun j hj hj' => ?_)
   unfold fieldFits
   rw [atName_yes _ _ j hj hj' (asc_of _ hr)]
   exact ih _ (d + 1) (hk _ (List.getElem_mem hj'))

end Go.Proofs.YtpalkdcgbbbmeaaGreatDoor

/-
 Plain mathematics: what comes of widening a tree.
-/
namespace Go.Proofs.YtpalkdcgbbbmeaaGreatDoor
open Go.RowKit

def mkT (m : Nat) (so nu : Int) (tx : ByteArray) (ns : List ByteArray) (ks : List (T m)) : T (m + 1) := (⟨so, nu, tx, ns, ks⟩ : Nd (T m))

def noneT : (m : Nat) → K m → T m
 | 0, y => Empty.elim (show Empty from y)
 | m + 1, _ => mkT m 6 0 ByteArray.empty [] []

def atName2 {α β : Type} : List ByteArray → List α → List β → ByteArray → Option (α × β)
 | s :: r, x :: xs, u :: us, c => if s = c then some (x, u) else atName2 r xs us c
 | _, _, _, _ => none

def mapH2 {α β γ δ : Type} (f : α → β → γ → δ) : List α → List β → List γ → List δ
 | y :: _, x :: _, us => us.map (f y x)
 | _, _, _ => []

def mapH1 {α δ : Type} (f : α → δ) : List α → List δ
 | y :: _ => [f y]
 | [] => []

def mapW {α β γ δ : Type} (f : α → β → γ → δ) (z : α → δ) (ns : List ByteArray) (xs : List β) (us : List γ) : List ByteArray → List α → List δ
 | s :: ss, y :: ys => (match atName2 ns xs us s with | some (x, u) => f y x u | none => z y) :: mapW f z ns xs us ss ys
 | _, _ => []

def widT : (m : Nat) → K m → (n : Nat) → K n → (p : Nat) → T p → T m
 | 0, b, _, _, _, _ => Empty.elim (show Empty from b)
 | _ + 1, _, 0, a, _, _ => Empty.elim (show Empty from a)
 | _ + 1, _, _ + 1, _, 0, t => Empty.elim (show Empty from t)
 | m + 1, b, n + 1, a, p + 1, t =>
  if Kd.sort b = 6 then
   if Kd.sort a = 6 then mkT m 6 0 ByteArray.empty [] (mapH2 (fun y x u => widT m y n x p u) (Kd.kids b) (Kd.kids a) (Nd.kids t))
   else mkT m 6 0 ByteArray.empty [] (mapH1 (fun y => widT m y (n + 1) a (p + 1) t) (Kd.kids b))
  else if Kd.sort b = 4 then mkT m 4 0 ByteArray.empty [] (mapH2 (fun y x u => widT m y n x p u) (Kd.kids b) (Kd.kids a) (Nd.kids t))
  else if Kd.sort b = 5 then mkT m 5 0 ByteArray.empty (Kd.names b) (mapW (fun y x u => widT m y n x p u) (noneT m) (Kd.names a) (Kd.kids a) (Nd.kids t) (Kd.names b) (Kd.kids b))
  else mkT m (Nd.sort t) (Nd.num t) (Nd.text t) [] []

theorem widT_mm {m n p : Nat} {b : K (m + 1)} {a : K (n + 1)} {t : T (p + 1)} {y : K m} {x : K n} (hb : Kd.sort b = 6) (ha : Kd.sort a = 6) (ky : Kd.kids b = [y]) (kx : Kd.kids a = [x]) :
  widT (m + 1) b (n + 1) a (p + 1) t = mkT m 6 0 ByteArray.empty [] ((Nd.kids t).map (fun u => widT m y n x p u)) := by
 rw [widT, if_pos hb, if_pos ha, ky, kx, mapH2]

theorem widT_xm {m n p : Nat} {b : K (m + 1)} {a : K (n + 1)} {t : T (p + 1)} {y : K m} (hb : Kd.sort b = 6) (ha : Kd.sort a ≠ 6) (ky : Kd.kids b = [y]) :
  widT (m + 1) b (n + 1) a (p + 1) t = mkT m 6 0 ByteArray.empty [] ([widT m y (n + 1) a (p + 1) t]) := by
 rw [widT, if_pos hb, if_neg ha, ky, mapH1]

theorem widT_ll {m n p : Nat} {b : K (m + 1)} {a : K (n + 1)} {t : T (p + 1)} {y : K m} {x : K n} (hb : Kd.sort b = 4) (ky : Kd.kids b = [y]) (kx : Kd.kids a = [x]) :
  widT (m + 1) b (n + 1) a (p + 1) t = mkT m 4 0 ByteArray.empty [] ((Nd.kids t).map (fun u => widT m y n x p u)) := by
 rw [widT, if_neg (by omega), if_pos hb, ky, kx, mapH2]

theorem widT_ff {m n p : Nat} {b : K (m + 1)} {a : K (n + 1)} {t : T (p + 1)} (hb : Kd.sort b = 5) :
  widT (m + 1) b (n + 1) a (p + 1) t = mkT m 5 0 ByteArray.empty (Kd.names b) (mapW (fun y x u => widT m y n x p u) (noneT m) (Kd.names a) (Kd.kids a) (Nd.kids t) (Kd.names b) (Kd.kids b)) := by
 rw [widT, if_neg (by omega), if_neg (by omega), if_pos hb]

theorem widT_leaf {m n p : Nat} {b : K (m + 1)} {a : K (n + 1)} {t : T (p + 1)} (hb : Kd.sort b = 1 ∨ Kd.sort b = 2 ∨ Kd.sort b = 3) :
  widT (m + 1) b (n + 1) a (p + 1) t = mkT m (Nd.sort t) (Nd.num t) (Nd.text t) [] [] := by
 rw [widT, if_neg (by omega), if_neg (by omega), if_neg (by omega)]

theorem mapW_length {α β γ δ : Type} {f : α → β → γ → δ} {z : α → δ} {ns : List ByteArray} {xs : List β} {us : List γ} : ∀ (ss : List ByteArray) (ys : List α), ss.length = ys.length → (mapW f z ns xs us ss ys).length = ys.length
 | [], [], _ => rfl
 | [], _ :: _, h => by cases h
 | _ :: _, [], h => by cases h
 | _ :: ss, _ :: ys, h => by
  simp only [mapW, List.length_cons]
  rw [mapW_length ss ys (by simpa using h)]

theorem mapW_get {α β γ δ : Type} {f : α → β → γ → δ} {z : α → δ} {ns : List ByteArray} {xs : List β} {us : List γ} : ∀ (ss : List ByteArray) (ys : List α) (j : Nat) (h1 : j < ss.length) (h2 : j < ys.length) (h3 : j < (mapW f z ns xs us ss ys).length),
  (mapW f z ns xs us ss ys)[j] = (match atName2 ns xs us ss[j] with | some (x, u) => f ys[j] x u | none => z ys[j])
 | [], _, _, h1, _, _ => absurd h1 (Nat.not_lt_zero _)
 | _ :: _, [], _, _, h2, _ => absurd h2 (Nat.not_lt_zero _)
 | s :: ss, y :: ys, 0, _, _, _ => rfl
 | s :: ss, y :: ys, j + 1, h1, h2, h3 => by
  have := mapW_get (f := f) (z := z) (ns := ns) (xs := xs) (us := us) ss ys j (by simpa using h1) (by simpa using h2) (by simpa [mapW] using h3)
  simpa [mapW] using this

theorem atName2_no {α β : Type} : ∀ (l : List ByteArray) (xs : List α) (us : List β) (c : ByteArray), c ∉ l → atName2 l xs us c = none
 | [], _, _, _, _ => by simp [atName2]
 | _ :: _, [], _, _, _ => by simp [atName2]
 | _ :: _, _ :: _, [], _, _ => by simp [atName2]
 | s :: r, x :: xs, u :: us, c, h => by
  rw [atName2, if_neg (fun e => h (by rw [e]; exact List.mem_cons_self ..))]
  exact atName2_no r xs us c (fun h' => h (List.mem_cons_of_mem _ h'))

theorem atName2_yes {α β : Type} : ∀ (l : List ByteArray) (xs : List α) (us : List β) (i : Nat) (h1 : i < l.length) (h2 : i < xs.length) (h3 : i < us.length), Asc l → atName2 l xs us l[i] = some (xs[i], us[i])
 | [], _, _, _, h1, _, _, _ => absurd h1 (Nat.not_lt_zero _)
 | _ :: _, [], _, _, _, h2, _, _ => absurd h2 (Nat.not_lt_zero _)
 | _ :: _, _ :: _, [], _, _, _, h3, _ => absurd h3 (Nat.not_lt_zero _)
 | s :: r, x :: xs, u :: us, 0, _, _, _, _ => by simp [atName2]
 | s :: r, x :: xs, u :: us, i + 1, h1, h2, h3, ha => by
  have hne : s ≠ r[i]'(by simpa using h1) := by
   have := (List.pairwise_cons.1 ha).1 (r[i]'(by simpa using h1)) (List.getElem_mem _)
   exact lt_ne this
  have := atName2_yes r xs us i (by simpa using h1) (by simpa using h2) (by simpa using h3) (List.pairwise_cons.1 ha).2
  simpa [atName2, hne] using this

end Go.Proofs.YtpalkdcgbbbmeaaGreatDoor

/-
 The specification's l2Has: walked.
-/
namespace Go.Proofs.YtpalkdcgbbbmeaaGreatDoor
open Go.RowKit

theorem hasK_yes {n m : Nat} {k : K (n + 1)} {t : T (m + 1)} (hs : Kd.sort k = Nd.sort t) (hn : Kd.names k = Nd.names t)
  (h5 : Kd.sort k = 5 → zipAll (fun a b => hasK n a m b) (Kd.kids k) (Nd.kids t) = true) (h4 : ¬ Kd.sort k = 5 → headAll (fun a b => hasK n a m b) (Kd.kids k) (Nd.kids t) = true) : hasK (n + 1) k (m + 1) t = true := by
 simp only [hasK]
 rw [show (Kd.sort k == Nd.sort t) = true by simpa using hs, decide_eq_true hn]
 by_cases h : Kd.sort k = 5
 · rw [if_pos h, h5 h]; rfl
 · rw [if_neg h, h4 h]; rfl

theorem hasK_bad {n m : Nat} {k : K (n + 1)} {t : T (m + 1)} (h5 : Kd.sort k = 5 → zipAll (fun a b => hasK n a m b) (Kd.kids k) (Nd.kids t) = false) (h4 : ¬ Kd.sort k = 5 → headAll (fun a b => hasK n a m b) (Kd.kids k) (Nd.kids t) = false) : hasK (n + 1) k (m + 1) t = false := by
 simp only [hasK]
 by_cases h : Kd.sort k = 5
 · rw [if_pos h, h5 h]; simp
 · rw [if_neg h, h4 h]; simp

set_option maxRecDepth 100000 in
set_option maxHeartbeats 4000000 in
theorem l2Has_step (n : Nat) (hn : HasSSaid n) : HasSSaid (n + 1) := by
 intro S S' m k t c0 c1 c2 e0 e1 e2 e3 e4 d d' w hk ht hB hB' hgk hgt
 cases m with
 | zero => exact ht.elim
 | succ m =>
 have HKK : Hid _ := goodK_kids hgk
 have HTK : Hid _ := goodT_kids hgt
 simp only [goodK, Bool.and_eq_true] at hgk
 simp only [goodT, Bool.and_eq_true] at hgt
 have HGK : Hid (∀ x, x ∈ Kd.kids k → goodK n x (d + 1) = true) := List.all_eq_true.1 hgk.2
 have HGT : Hid (∀ x, x ∈ Nd.kids t → goodT m x (d' + 1) = true) := List.all_eq_true.1 hgt.2
 clear hgk hgt
 obtain ⟨rfl, -, hk3, hk4⟩ := hk
 obtain ⟨rfl, rfl, rfl, hsx, -, -, ht3, ht4⟩ := ht
 obtain ⟨na, nc, rfl, hnl, -, hnc⟩ := id hk3
 obtain ⟨ka, kc, rfl, hkl, hkc⟩ := id hk4
 obtain ⟨ma, mc, rfl, hml, -, hmc⟩ := id ht3
 obtain ⟨la, lc, rfl, hll, hlc⟩ := id ht4
 unfold maxLen at hnl hkl hml hll
 have HNo : Hid (Kd.sort k ≠ Nd.sort t ∨ Kd.names k ≠ Nd.names t → hasK (n + 1) k (m + 1) t = false) := hasK_no
 have hb0 : Below w.heap.size w ((w.alloc (.cells #[.int .i64 (Kd.sort k), .slice na (Kd.names k).length nc, .slice ka (Kd.kids k).length kc] 26)).alloc (.cells #[.int .i64 (Nd.sort t), .int .i64 (Nd.num t), .string (Nd.text t), .slice ma (Nd.names t).length mc, .slice la (Nd.kids t).length lc] 29)) :=
  ((Below.refl _ _).alloc (Nat.le_refl _) _).alloc (by simp) _
 by_cases hs : Kd.sort k = Nd.sort t
 case neg =>
  have hs' : (Kd.sort k != Nd.sort t) = true := by simpa using hs
  have HF : Hid (hasK (n + 1) k (m + 1) t = false) := HNo.out (.inl hs)
  clear hs hkc hnc hmc hlc hk3 hk4 ht3 ht4
  go_enter Tryz.func33, Tryz.ntmps33
  go_wp2_with fail
  go_ret
  exact ⟨ret_bool HF.out.symm, hb0⟩
 have hs' : (Kd.sort k != Nd.sort t) = false := by simpa using hs
 have HS : Hid (Kd.sort k = Nd.sort t) := hs
 by_cases hln : (Kd.names k).length = (Nd.names t).length
 case neg =>
  have hl' : (((Kd.names k).length : Int) != ((Nd.names t).length : Int)) = true := by simp; omega
  have HF : Hid (hasK (n + 1) k (m + 1) t = false) := HNo.out (.inr (fun e => hln (by rw [e])))
  clear hs hkc hnc hmc hlc hk3 hk4 ht3 ht4 hln
  go_enter Tryz.func33, Tryz.ntmps33
  go_wp2_with fail
  go_ret
  exact ⟨ret_bool HF.out.symm, hb0⟩
 have hl' : (((Kd.names k).length : Int) != ((Nd.names t).length : Int)) = false := by simp; omega
 have HLN := hidF hln
 have hx3 : Box3 ((w.alloc (.cells #[.int .i64 (Kd.sort k), .slice na (Kd.names k).length nc, .slice ka (Kd.kids k).length kc] 26)).alloc (.cells #[.int .i64 (Nd.sort t), .int .i64 (Nd.num t), .string (Nd.text t), .slice ma (Nd.names t).length mc, .slice la (Nd.kids t).length lc] 29)) w.heap.size
   (.int .i64 (Kd.sort k)) (.slice na (Kd.names k).length nc) (.slice ka (Kd.kids k).length kc) := (Box3.new w _ _ _ 26).keep ((Below.refl _ _).alloc (Nat.le_refl _) _)
 have hx5 := Box5.new (w.alloc (.cells #[.int .i64 (Kd.sort k), .slice na (Kd.names k).length nc, .slice ka (Kd.kids k).length kc] 26)) (.int .i64 (Nd.sort t)) (.int .i64 (Nd.num t)) (.string (Nd.text t)) (.slice ma (Nd.names t).length mc) (.slice la (Nd.kids t).length lc) 29
 rw [show (w.alloc (.cells #[.int .i64 (Kd.sort k), .slice na (Kd.names k).length nc, .slice ka (Kd.kids k).length kc] 26)).heap.size = w.heap.size + 1 by simp] at hx5
 have hz0 : ((w.alloc (.cells #[.int .i64 (Kd.sort k), .slice na (Kd.names k).length nc, .slice ka (Kd.kids k).length kc] 26)).alloc (.cells #[.int .i64 (Nd.sort t), .int .i64 (Nd.num t), .string (Nd.text t), .slice ma (Nd.names t).length mc, .slice la (Nd.kids t).length lc] 29)).heap.size = w.heap.size + 1 + 1 := by simp
 clear hs hln hk3 hk4 ht3 ht4
 go_enter Tryz.func33, Tryz.ntmps33
 go_wp2_with fail
 generalize ((w.alloc (.cells #[.int .i64 (Kd.sort k), .slice na (Kd.names k).length nc, .slice ka (Kd.kids k).length kc] 26)).alloc (.cells #[.int .i64 (Nd.sort t), .int .i64 (Nd.num t), .string (Nd.text t), .slice ma (Nd.names t).length mc, .slice la (Nd.kids t).length lc] 29)) = W0 at *
 clear hl' hs'
 go_loopw [5] (fun i wr => ∃ j : Nat, j ≤ (Kd.names k).length ∧ i = .int .i64 j ∧ (∀ q (h1 : q < (Kd.names k).length) (h2 : q < (Nd.names t).length), q < j → (Kd.names k)[q] = (Nd.names t)[q]) ∧ Below W0.heap.size W0 wr) (fun i _ => (Kd.names k).length - (intOf i).toNat)
 case atStart => exact ⟨0, Nat.zero_le _, rfl, fun q _ _ h => absurd h (Nat.not_lt_zero _), Below.refl _ _⟩
 case round =>
  obtain ⟨j, hj, rfl, hall, hbel⟩ := hrel
  have HALL := hidF hall
  clear hall
  obtain ⟨i0, i1, i2⟩ := hx3.keep hbel
  obtain ⟨j0, j1, j2, j3, j4⟩ := hx5.keep hbel
  have hbw : Below w.heap.size w wr := below_step hb0 (by omega) hbel
  have hzr := hbel.size
  by_cases hlt : j < (Kd.names k).length
  ·
   have hlt2 : j < (Nd.names t).length := by rw [← HLN.out]; exact hlt
   obtain ⟨b, off, rfl, hbB, hcl⟩ := hnc (by intro h; rw [h] at hlt; simp at hlt)
   obtain ⟨b2, off2, rfl, hbB2, hcl2⟩ := hmc (by intro h; rw [h] at hlt2; simp at hlt2)
   have f0 := (hbw.cell (p := ⟨b, off + j, none⟩) (hB b hbB)).trans (hcl j hlt)
   have f1 := (hbw.cell (p := ⟨b2, off2 + j, none⟩) (hB' b2 hbB2)).trans (hcl2 j hlt2)
   have HE : Hid ((Kd.names k)[j] ≠ (Nd.names t)[j] → hasK (n + 1) k (m + 1) t = false) := fun h => HNo.out (.inr (names_ne j hlt hlt2 h))
   have HAN : Hid ((Kd.names k)[j] = (Nd.names t)[j] → ∀ q (h1 : q < (Kd.names k).length) (h2 : q < (Nd.names t).length), q < j + 1 → (Kd.names k)[q] = (Nd.names t)[q]) := by
    intro he q h1 h2 hq
    by_cases hqj : q < j
    · exact HALL.out q h1 h2 hqj
    ·
     have : q = j := by omega
     subst this; exact he
   clear hnc hmc hcl hcl2 hkc hlc
   generalize (Kd.names k)[j] = s1 at *
   generalize (Nd.names t)[j] = s2 at *
   cases heq : (s1.toList == s2.toList) with
   | false =>
    have HF : Hid (hasK (n + 1) k (m + 1) t = false) := HE.out (by rw [str_beq] at heq; simpa using heq)
    go_wp2_with fail
    go_quiet (fail)
    go_wp2_with fail
    go_ret
    exact ⟨ret_bool HF.out.symm, below_drewN hbw _⟩
   | true =>
    have HF : Hid (s1 = s2) := by show s1 = s2; rw [str_beq] at heq; simpa using heq
    go_wp2_with fail
    go_quiet (fail)
    go_wp2_with fail
    go_roundw
    case rel => exact ⟨j + 1, by omega, by go_num, HAN.out HF.out, below_drewN hbel _⟩
    case measure => simp [intOf]; omega
  ·
   have HNE : Hid (Kd.names k = Nd.names t) := names_eq HLN.out (fun q h1 h2 => HALL.out q h1 h2 (by omega))
   clear hnc hmc HALL
   go_wp2_with fail
   go_loopw [6] (fun i wr' => ∃ j : Nat, j ≤ (Nd.kids t).length ∧ i = .int .i64 j ∧ Below W0.heap.size W0 wr' ∧ (Kd.sort k = 5 → ∀ q (h1 : q < (Kd.kids k).length) (h2 : q < (Nd.kids t).length), q < j → hasK n (Kd.kids k)[q] m (Nd.kids t)[q] = true) ∧
     (¬ Kd.sort k = 5 → ∀ x r, Kd.kids k = x :: r → ((Nd.kids t).take j).all (fun y => hasK n x m y) = true)) (fun i _ => (Nd.kids t).length - (intOf i).toNat)
   case atStart => exact ⟨0, Nat.zero_le _, rfl, hbel, fun _ q _ _ h => absurd h (Nat.not_lt_zero _), fun _ x r _ => by simp⟩
   case round =>
    obtain ⟨j, hj, rfl, hbel2, h5all, h4all⟩ := hrel
    have H5 := hidF h5all
    have H4 := hidF h4all
    clear h5all h4all hbel hbw i0 i1 i2 j0 j1 j2 j3 j4 hzr
    obtain ⟨i0, i1, i2⟩ := hx3.keep hbel2
    obtain ⟨j0, j1, j2, j3, j4⟩ := hx5.keep hbel2
    have hbw : Below w.heap.size w wr := below_step hb0 (by omega) hbel2
    have hzr := hbel2.size
    by_cases hlt : j < (Nd.kids t).length
    ·
     obtain ⟨b2, off2, rfl, hbB2, hcl2⟩ := hlc (by intro h; rw [h] at hlt; simp at hlt)
     obtain ⟨y0, y1, y2, y3, y4, g0, g1, g2, g3, g4, hyin⟩ := hcl2 j hlt
     have hbb2 := hB' b2 hbB2
     have f0 := (hbw.cell (p := ⟨b2, off2 + j * 5, none⟩) hbb2).trans g0
     have f1 := (hbw.cell (p := ⟨b2, off2 + j * 5 + 1, none⟩) hbb2).trans g1
     have f2 := (hbw.cell (p := ⟨b2, off2 + j * 5 + 2, none⟩) hbb2).trans g2
     have f3 := (hbw.cell (p := ⟨b2, off2 + j * 5 + 3, none⟩) hbb2).trans g3
     have f4 := (hbw.cell (p := ⟨b2, off2 + j * 5 + 4, none⟩) hbb2).trans g4
     have hgt := HGT.out _ (List.getElem_mem hlt)
     rcases HKK.out with ⟨hsk, -, -⟩ | ⟨hsk, -, x, hkx⟩ | ⟨hsk, hlk, -⟩
     ·
      exfalso
      have := (HTK.out.1 (by rw [← HS.out]; exact hsk)).2
      rw [this] at hlt
      exact absurd hlt (Nat.not_lt_zero _)
     ·
      have h5n : ¬ Kd.sort k = 5 := by omega
      have he5 : (Kd.sort k == 5) = false := by simpa using h5n
      have hk1 : (Kd.kids k).length = 1 := by rw [hkx]; rfl
      obtain ⟨b, off, rfl, hbB, hcl⟩ := hkc (by rw [hkx]; simp)
      obtain ⟨x0, x1, x2, q0, q1, q2, hxin⟩ := hcl 0 (by omega)
      rw [Nat.zero_mul, Nat.add_zero] at q0
      rw [Nat.zero_mul, Nat.add_zero] at q1 q2
      have hxe : (Kd.kids k)[0]'(by omega) = x := by simp [hkx]
      rw [hxe] at hxin
      have hbb := hB b hbB
      have r0 := (hbw.cell (p := ⟨b, off, none⟩) hbb).trans q0
      have r1 := (hbw.cell (p := ⟨b, off + 1, none⟩) hbb).trans q1
      have r2 := (hbw.cell (p := ⟨b, off + 2, none⟩) hbb).trans q2
      obtain ⟨u0, ua, ul, uc, va, vl, vc, rfl, rfl, rfl⟩ := hxin.shape
      have hal := (Below.refl wr.heap.size wr).alloc (Nat.le_refl _) (.cells #[.int .i64 u0, .slice ua ul uc, .slice va vl vc] 26)
      have hbw' : Below w.heap.size w ((wr.alloc (.cells #[.int .i64 u0, .slice ua ul uc, .slice va vl vc] 26)).drew) := (hbw.trans (hal.mono hbw.size)).drew
      have hgx := HGK.out x (by rw [hkx]; simp)
      have HC : Hid (Calls Tryz.prog 33 _ _ _) := hn S S' m x (Nd.kids t)[j] _ _ _ _ _ _ _ _ (d + 1) (d' + 1) ((wr.alloc (.cells #[.int .i64 u0, .slice ua ul uc, .slice va vl vc] 26)).drew)
       (hxin.keep (same_below hbw' hB) (fun _ h => h)) (hyin.keep (same_below hbw' hB') (fun _ h => h)) (fun b hb => by have := hB b hb; have := hbw.size; simp; omega) (fun b hb => by have := hB' b hb; have := hbw.size; simp; omega) hgx hgt
      have HBad : Hid (hasK n x m (Nd.kids t)[j] = false → hasK (n + 1) k (m + 1) t = false) := fun h => hasK_bad (fun h => absurd h h5n) (fun _ => by rw [hkx]; exact headAll_false j hlt h)
      have HNext : Hid (hasK n x m (Nd.kids t)[j] = true → ∀ x' r', Kd.kids k = x' :: r' → ((Nd.kids t).take (j + 1)).all (fun y => hasK n x' m y) = true) := by
       intro h x' r' he
       have e : x' = x := by rw [hkx] at he; exact ((List.cons.inj he).1).symm
       subst e
       exact all_take_kidK j hlt (H4.out h5n _ _ he) h
      have hk0 : (0 : Int) < ((Kd.kids k).length : Int) := by omega
      have H5n : Hid (¬ Kd.sort k = 5) := h5n
      have hbb' : b < wr.heap.size := by have := hbw.size; omega
      have hbb2' : b2 < wr.heap.size := by have := hbw.size; omega
      have hN0 : w.heap.size < wr.heap.size := by omega
      have hN1 : w.heap.size + 1 < wr.heap.size := by omega
      clear hkc hcl hlc hcl2 hxin hyin q0 q1 q2 g0 g1 g2 g3 g4 hkx hxe hk1 h5n hsk hgx hgt
      generalize hkj : (Nd.kids t)[j] = tj at *
      clear hkj
      go_wp2_with fail
      go_region_law (go_simp; go_at_call 33; refine HC.out.mono ?_; rintro e w3 ⟨rfl, hb3⟩)
      all_goals
       have hb4 : Below W0.heap.size W0 w3 := hbel2.trans (((hal.drew).trans (hb3.mono (by simp))).mono hzr)
       have hb5 := below_step hb0 (by omega) hb4
       clear hb3
       cases hres : hasK n x m tj with
       | false =>
        have HF : Hid (hasK (n + 1) k (m + 1) t = false) := HBad.out hres
        clear hres
        go_wp2_with fail
        go_ret
        exact ⟨ret_bool HF.out.symm, hb5⟩
       | true =>
        have HF : Hid _ := HNext.out hres
        clear hres
        go_wp2_with fail
        go_roundw
        case rel => exact ⟨j + 1, by omega, by go_num, hb4, fun h => absurd h H5n.out, fun _ => HF.out⟩
        case measure => simp [intOf]; omega
     ·
      have he5 : (Kd.sort k == 5) = true := by simpa using hsk
      have hlkt : (Kd.kids k).length = (Nd.kids t).length := by
       have h1 := (HTK.out.2.2 (by rw [← HS.out]; exact hsk)).1
       have h2 := HLN.out
       omega
      have hltk : j < (Kd.kids k).length := by omega
      obtain ⟨b, off, rfl, hbB, hcl⟩ := hkc (by intro h; rw [h] at hltk; simp at hltk)
      obtain ⟨x0, x1, x2, q0, q1, q2, hxin0⟩ := hcl 0 (by omega)
      obtain ⟨z0, z1, z2, s0, s1, s2, hxin⟩ := hcl j hltk
      rw [Nat.zero_mul, Nat.add_zero] at q0
      rw [Nat.zero_mul, Nat.add_zero] at q1 q2
      have hbb := hB b hbB
      have r0 := (hbw.cell (p := ⟨b, off, none⟩) hbb).trans q0
      have r1 := (hbw.cell (p := ⟨b, off + 1, none⟩) hbb).trans q1
      have r2 := (hbw.cell (p := ⟨b, off + 2, none⟩) hbb).trans q2
      have p0 := (hbw.cell (p := ⟨b, off + j * 3, none⟩) hbb).trans s0
      have p1 := (hbw.cell (p := ⟨b, off + j * 3 + 1, none⟩) hbb).trans s1
      have p2 := (hbw.cell (p := ⟨b, off + j * 3 + 2, none⟩) hbb).trans s2
      obtain ⟨t0, ta, tl, tc, sa, sl, sc, rfl, rfl, rfl⟩ := hxin0.shape
      obtain ⟨u0, ua, ul, uc, va, vl, vc, rfl, rfl, rfl⟩ := hxin.shape
      have hal := (Below.refl wr.heap.size wr).alloc (Nat.le_refl _) (.cells #[.int .i64 u0, .slice ua ul uc, .slice va vl vc] 26)
      have hbw' : Below w.heap.size w ((wr.alloc (.cells #[.int .i64 u0, .slice ua ul uc, .slice va vl vc] 26)).drew) := (hbw.trans (hal.mono hbw.size)).drew
      have hgx := HGK.out _ (List.getElem_mem hltk)
      have HC : Hid (Calls Tryz.prog 33 _ _ _) := hn S S' m (Kd.kids k)[j] (Nd.kids t)[j] _ _ _ _ _ _ _ _ (d + 1) (d' + 1) ((wr.alloc (.cells #[.int .i64 u0, .slice ua ul uc, .slice va vl vc] 26)).drew)
       (hxin.keep (same_below hbw' hB) (fun _ h => h)) (hyin.keep (same_below hbw' hB') (fun _ h => h)) (fun b hb => by have := hB b hb; have := hbw.size; simp; omega) (fun b hb => by have := hB' b hb; have := hbw.size; simp; omega) hgx hgt
      have HBad : Hid (hasK n (Kd.kids k)[j] m (Nd.kids t)[j] = false → hasK (n + 1) k (m + 1) t = false) := fun h => hasK_bad (fun _ => zipAll_false j hltk hlt h) (fun h' => absurd hsk h')
      have HNext : Hid (hasK n (Kd.kids k)[j] m (Nd.kids t)[j] = true → Kd.sort k = 5 → ∀ q (h1 : q < (Kd.kids k).length) (h2 : q < (Nd.kids t).length), q < j + 1 → hasK n (Kd.kids k)[q] m (Nd.kids t)[q] = true) := by
       intro h _ q h1 h2 hq
       by_cases hqj : q < j
       · exact H5.out hsk q h1 h2 hqj
       ·
        have : q = j := by omega
        subst this; exact h
      have H5y : Hid (Kd.sort k = 5) := hsk
      have hk0 : (0 : Int) < ((Kd.kids k).length : Int) := by omega
      have hkj : (j : Int) < ((Kd.kids k).length : Int) := by omega
      have hbb' : b < wr.heap.size := by have := hbw.size; omega
      have hbb2' : b2 < wr.heap.size := by have := hbw.size; omega
      have hN0 : w.heap.size < wr.heap.size := by omega
      have hN1 : w.heap.size + 1 < wr.heap.size := by omega
      clear hkc hcl hlc hcl2 hxin hxin0 hyin q0 q1 q2 s0 s1 s2 g0 g1 g2 g3 g4 hsk hgx hgt hlk hlkt
      generalize (Kd.kids k)[j] = kj at *
      generalize (Nd.kids t)[j] = tj at *
      clear hltk
      go_wp2_with fail
      go_region_law (go_simp; go_at_call 33; refine HC.out.mono ?_; rintro e w3 ⟨rfl, hb3⟩)
      all_goals
       have hb4 : Below W0.heap.size W0 w3 := hbel2.trans (((hal.drew).trans (hb3.mono (by simp))).mono hzr)
       have hb5 := below_step hb0 (by omega) hb4
       clear hb3
       cases hres : hasK n kj m tj with
       | false =>
        have HF : Hid (hasK (n + 1) k (m + 1) t = false) := HBad.out hres
        clear hres
        go_wp2_with fail
        go_ret
        exact ⟨ret_bool HF.out.symm, hb5⟩
       | true =>
        have HF : Hid _ := HNext.out hres
        clear hres
        go_wp2_with fail
        go_roundw
        case rel => exact ⟨j + 1, by omega, by go_num, hb4, HF.out, fun h => absurd H5y.out h⟩
        case measure => simp [intOf]; omega
    ·
     have hjl : j = (Nd.kids t).length := by omega
     have HF : Hid (hasK (n + 1) k (m + 1) t = true) := by
      refine hasK_yes HS.out HNE.out (fun h5 => ?_) (fun h5 => ?_)
      ·
       have hlkt : (Kd.kids k).length = (Nd.kids t).length := by
        rcases HKK.out with ⟨hsk, -, -⟩ | ⟨hsk, -, x, hkx⟩ | ⟨hsk, hlk, -⟩
        · omega
        · omega
        ·
         have h1 := (HTK.out.2.2 (by rw [← HS.out]; exact hsk)).1
         have h2 := HLN.out
         omega
       exact zipAll_true hlkt (fun q h1 h2 => H5.out h5 q h1 h2 (by omega))
      ·
       rcases HKK.out with ⟨hsk, -, hkx⟩ | ⟨hsk, -, x, hkx⟩ | ⟨hsk, -⟩
       ·
        have := (HTK.out.1 (by rw [← HS.out]; exact hsk)).2
        rw [hkx, this]; rfl
       ·
        have := H4.out h5 x [] hkx
        rw [hjl, List.take_length] at this
        rw [hkx]; exact headAll_true this
       · exact absurd hsk h5
     clear hkc hlc hjl
     go_wp2_with fail
     go_ret
     exact ⟨ret_bool HF.out.symm, hbw⟩

theorem l2Has_any : ∀ n, HasSSaid n := by
 intro n
 induction n with
 | zero => intro S S' m k t c0 c1 c2 e0 e1 e2 e3 e4 d d' w hk; exact hk.elim
 | succ n ih => exact l2Has_step n ih

end Go.Proofs.YtpalkdcgbbbmeaaGreatDoor

/-
 Plain mathematics: what comes of widening is of the schema into which it was widened.
-/
namespace Go.Proofs.YtpalkdcgbbbmeaaGreatDoor
open Go.RowKit

theorem zipAll_get {α β : Type} {f : α → β → Bool} : ∀ {l : List α} {s : List β}, zipAll f l s = true → ∀ i (h1 : i < l.length) (h2 : i < s.length), f l[i] s[i] = true
 | [], _, _, _, h1, _ => absurd h1 (Nat.not_lt_zero _)
 | _ :: _, [], _, _, _, h2 => absurd h2 (Nat.not_lt_zero _)
 | a :: r, b :: s, h, 0, _, _ => by
  simp only [zipAll, Bool.and_eq_true] at h
  exact h.1
 | a :: r, b :: s, h, i + 1, h1, h2 => by
  simp only [zipAll, Bool.and_eq_true] at h
  have := zipAll_get h.2 i (by simpa using h1) (by simpa using h2)
  simpa using this

theorem headAll_get {α β : Type} {f : α → β → Bool} {x : α} {r : List α} : ∀ {s : List β}, headAll f (x :: r) s = true → ∀ u, u ∈ s → f x u = true
 | [], _, _, hu => by cases hu
 | b :: s, h, u, hu => by
  simp only [headAll] at h
  exact List.all_eq_true.1 h u hu

theorem hasK_get {n m : Nat} {k : K (n + 1)} {t : T (m + 1)} (h : hasK (n + 1) k (m + 1) t = true) :
  Kd.sort k = Nd.sort t ∧ Kd.names k = Nd.names t ∧ (Kd.sort k = 5 → ∀ i (h1 : i < (Kd.kids k).length) (h2 : i < (Nd.kids t).length), hasK n (Kd.kids k)[i] m (Nd.kids t)[i] = true) ∧ (Kd.sort k ≠ 5 → ∀ x, Kd.kids k = [x] → ∀ u, u ∈ Nd.kids t → hasK n x m u = true) := by
 simp only [hasK, Bool.and_eq_true, decide_eq_true_eq, beq_iff_eq] at h
 refine ⟨h.1.1, h.1.2, fun h5 i h1 h2 => ?_, fun h5 x hx u hu => ?_⟩
 ·
  have := h.2
  rw [if_pos h5] at this
  exact zipAll_get this i h1 h2
 ·
  have := h.2
  rw [if_neg h5, hx] at this
  exact headAll_get this u hu

theorem pairAll_get {α : Type} {f : ByteArray → α → Bool} : ∀ {l : List ByteArray} {ks : List α}, pairAll f l ks = true → ∀ i (h1 : i < l.length) (h2 : i < ks.length), f l[i] ks[i] = true
 | [], _, _, _, h1, _ => absurd h1 (Nat.not_lt_zero _)
 | _ :: _, [], _, _, _, h2 => absurd h2 (Nat.not_lt_zero _)
 | a :: r, b :: s, h, 0, _, _ => by
  simp only [pairAll, Bool.and_eq_true] at h
  exact h.1
 | a :: r, b :: s, h, i + 1, h1, h2 => by
  simp only [pairAll, Bool.and_eq_true] at h
  have := pairAll_get h.2 i (by simpa using h1) (by simpa using h2)
  simpa using this

theorem fitsK_form_get {m n : Nat} {b : K (m + 1)} {a : K (n + 1)} (hb : Kd.sort b = 5) (ha : Kd.sort a = 5) (h : fitsK (m + 1) b (n + 1) a = true) :
  (∀ s, s ∈ Kd.names a → s ∈ Kd.names b) ∧ ∀ j (h1 : j < (Kd.names b).length) (h2 : j < (Kd.kids b).length), fieldFits n (Kd.names a) (Kd.kids a) m (Kd.names b)[j] (Kd.kids b)[j] = true := by
 rw [fitsK_form hb ha, Bool.and_eq_true] at h
 refine ⟨fun s hs => ?_, fun j h1 h2 => pairAll_get h.2 j h1 h2⟩
 have := List.all_eq_true.1 h.1 s hs
 exact Classical.byContradiction fun hn => by rw [memB_no hn] at this; cases this

theorem fitsK_sorts {m n : Nat} {b : K (m + 1)} {a : K (n + 1)} (hb : Kd.sort b ≠ 6) (h : fitsK (m + 1) b (n + 1) a = true) : Kd.sort a = Kd.sort b :=
 Classical.byContradiction fun hn => by rw [fitsK_no hb hn] at h; cases h

theorem has_none : ∀ (m : Nat) (y : K m) (d : Int), goodK m y d = true → srtK m y = 6 → hasK m y m (noneT m y) = true
 | 0, y, _, _, _ => Empty.elim (show Empty from y)
 | m + 1, y, d, hg, h6 => by
  have h6' : Kd.sort y = 6 := h6
  have hn : Kd.names y = [] := by
   rcases goodK_kids hg with ⟨h, -⟩ | ⟨-, h, -⟩ | ⟨h, -⟩
   · omega
   · exact h
   · omega
  refine hasK_yes (by rw [h6']; rfl) (by rw [hn]; rfl) (fun h => by omega) (fun _ => ?_)
  show headAll _ _ [] = true
  cases Kd.kids y <;> rfl

theorem goodK_all {n : Nat} {k : K (n + 1)} {d : Int} (h : goodK (n + 1) k d = true) : ∀ x, x ∈ Kd.kids k → goodK n x (d + 1) = true := by
 simp only [goodK, Bool.and_eq_true] at h
 exact List.all_eq_true.1 h.2

theorem goodT_all {n : Nat} {t : T (n + 1)} {d : Int} (h : goodT (n + 1) t d = true) : ∀ x, x ∈ Nd.kids t → goodT n x (d + 1) = true := by
 simp only [goodT, Bool.and_eq_true] at h
 exact List.all_eq_true.1 h.2

theorem fits_ways {m n p : Nat} {b : K (m + 1)} {a : K (n + 1)} {t : T (p + 1)} {d d' e : Int} (hgb : goodK (m + 1) b d' = true) (hga : goodK (n + 1) a d = true) (hgt : goodT (p + 1) t e = true) (hf : fitsK (m + 1) b (n + 1) a = true) (hh : hasK (n + 1) a (p + 1) t = true) :
  (∃ y x, Kd.sort b = 6 ∧ Kd.sort a = 6 ∧ Kd.kids b = [y] ∧ Kd.kids a = [x] ∧ fitsK m y n x = true ∧ ∀ u, u ∈ Nd.kids t → hasK n x p u = true) ∨
  (∃ y, Kd.sort b = 6 ∧ Kd.sort a ≠ 6 ∧ Kd.kids b = [y] ∧ fitsK m y (n + 1) a = true) ∨
  (∃ y x, Kd.sort b = 4 ∧ Kd.sort a = 4 ∧ Kd.kids b = [y] ∧ Kd.kids a = [x] ∧ fitsK m y n x = true ∧ ∀ u, u ∈ Nd.kids t → hasK n x p u = true) ∨
  (Kd.sort b = 5 ∧ Kd.sort a = 5 ∧ (Kd.names b).length = (Kd.kids b).length ∧ (Kd.names a).length = (Kd.kids a).length ∧ (Nd.kids t).length = (Kd.kids a).length ∧ Asc (Kd.names a) ∧ Asc (Kd.names b) ∧ (∀ s, s ∈ Kd.names a → s ∈ Kd.names b) ∧
   (∀ j (h1 : j < (Kd.names b).length) (h2 : j < (Kd.kids b).length), fieldFits n (Kd.names a) (Kd.kids a) m (Kd.names b)[j] (Kd.kids b)[j] = true) ∧ (∀ i (h1 : i < (Kd.kids a).length) (h2 : i < (Nd.kids t).length), hasK n (Kd.kids a)[i] p (Nd.kids t)[i] = true)) ∨
  ((Kd.sort b = 1 ∨ Kd.sort b = 2 ∨ Kd.sort b = 3) ∧ Kd.sort a = Kd.sort b ∧ Kd.names b = [] ∧ Kd.kids b = [] ∧ Nd.kids t = []) := by
 obtain ⟨hs, hnm, h5, h4⟩ := hasK_get hh
 have hka := goodK_kids hga
 have hkt := goodT_kids hgt
 rcases goodK_kids hgb with ⟨h, nb, kb⟩ | ⟨h, nb, y, hy⟩ | ⟨h, hlb, hrb⟩
 ·
  refine .inr (.inr (.inr (.inr ⟨h, fitsK_sorts (by omega) hf, nb, kb, ?_⟩)))
  have := fitsK_sorts (by omega) hf
  exact (hkt.1 (by omega)).2
 ·
  rcases h with h | h
  ·
   have hsa := fitsK_sorts (by omega) hf
   rcases hka with ⟨h', -⟩ | ⟨h', na, x, hx⟩ | ⟨h', -⟩
   · omega
   ·
    refine .inr (.inr (.inl ⟨y, x, h, by omega, hy, hx, ?_, h4 (by omega) x hx⟩))
    rw [← fitsK_ll h (by omega) hy hx]; exact hf
   · omega
  ·
   by_cases ha6 : Kd.sort a = 6
   ·
    rcases hka with ⟨h', -⟩ | ⟨h', na, x, hx⟩ | ⟨h', -⟩
    · omega
    ·
     refine .inl ⟨y, x, h, ha6, hy, hx, ?_, h4 (by omega) x hx⟩
     rw [← fitsK_mm h ha6 hy hx]; exact hf
    · omega
   ·
    refine .inr (.inl ⟨y, h, ha6, hy, ?_⟩)
    rw [← fitsK_xm h ha6 hy]; exact hf
 ·
  have hsa := fitsK_sorts (by omega) hf
  rcases hka with ⟨h', -⟩ | ⟨h', -⟩ | ⟨h', hla, hra⟩
  · omega
  · omega
  ·
   obtain ⟨g1, g2⟩ := fitsK_form_get h h' hf
   have hlt := (hkt.2.2 (by omega)).1
   refine .inr (.inr (.inr (.inl ⟨h, h', hlb, hla, ?_, asc_of _ hra, asc_of _ hrb, g1, g2, h5 h'⟩)))
   rw [← hla, hnm]; exact hlt.symm

end Go.Proofs.YtpalkdcgbbbmeaaGreatDoor

/-
 Plain mathematics: what comes of widening is of the schema into which it was widened, has no fewer parts, and is the tree itself where the two schemas are one.
-/
namespace Go.Proofs.YtpalkdcgbbbmeaaGreatDoor
open Go.RowKit

theorem field_pair {n m p : Nat} {ns : List ByteArray} {xs : List (K n)} {us : List (T p)} {s : ByteArray} {y : K m} (hA : Asc ns) (h1 : ns.length = xs.length) (h2 : us.length = xs.length) (hf : fieldFits n ns xs m s y = true) :
  (∃ (i : Nat) (h1 : i < ns.length) (h2 : i < xs.length) (h3 : i < us.length), ns[i] = s ∧ atName2 ns xs us s = some (xs[i], us[i]) ∧ fitsK m y n xs[i] = true) ∨ (s ∉ ns ∧ atName2 ns xs us s = none ∧ srtK m y = 6) := by
 by_cases hm : s ∈ ns
 ·
  obtain ⟨i, hi, rfl⟩ := List.getElem_of_mem hm
  refine .inl ⟨i, hi, by omega, by omega, rfl, atName2_yes ns xs us i hi (by omega) (by omega) hA, ?_⟩
  unfold fieldFits at hf
  rw [atName_yes ns xs i hi (by omega) hA] at hf
  exact hf
 ·
  refine .inr ⟨hm, atName2_no ns xs us s hm, ?_⟩
  unfold fieldFits at hf
  rw [atName_no ns xs s hm] at hf
  simpa using hf

theorem has_wid : ∀ (m : Nat) (b : K m) (n : Nat) (a : K n) (p : Nat) (t : T p) (d d' e : Int), goodK m b d' = true → goodK n a d = true → goodT p t e = true → fitsK m b n a = true → hasK n a p t = true → hasK m b m (widT m b n a p t) = true := by
 intro m
 induction m with
 | zero => intro b; exact Empty.elim (show Empty from b)
 | succ m ih =>
  intro b n a p t d d' e hgb hga hgt hf hh
  cases n with
  | zero => exact Empty.elim (show Empty from a)
  | succ n =>
  cases p with
  | zero => exact Empty.elim (show Empty from t)
  | succ p =>
  have gb := goodK_all hgb
  have ga := goodK_all hga
  have gt := goodT_all hgt
  have hnb := goodK_kids hgb
  rcases fits_ways hgb hga hgt hf hh with ⟨y, x, hb, ha, ky, kx, hf', hu⟩ | ⟨y, hb, ha, ky, hf'⟩ | ⟨y, x, hb, ha, ky, kx, hf', hu⟩ | ⟨hb, ha, hlb, hla, hlt, hAa, hAb, hsub, hff, hkk⟩ | ⟨hb, ha, nb, kb, kt⟩
  ·
   rw [widT_mm hb ha ky kx]
   refine hasK_yes (by rw [hb]; rfl) ?_ (fun h => by omega) (fun _ => ?_)
   ·
    rcases hnb with ⟨h, -⟩ | ⟨-, h, -⟩ | ⟨h, -⟩
    · omega
    · rw [h]; rfl
    · omega
   ·
    show headAll _ (Kd.kids b) ((Nd.kids t).map _) = true
    rw [ky]
    refine headAll_true (List.all_eq_true.2 fun v hv => ?_)
    obtain ⟨u, hu', rfl⟩ := List.mem_map.1 hv
    exact ih y n x p u _ _ _ (gb y (by rw [ky]; exact List.mem_cons_self ..)) (ga x (by rw [kx]; exact List.mem_cons_self ..)) (gt u hu') hf' (hu u hu')
  ·
   rw [widT_xm hb ha ky]
   refine hasK_yes (by rw [hb]; rfl) ?_ (fun h => by omega) (fun _ => ?_)
   ·
    rcases hnb with ⟨h, -⟩ | ⟨-, h, -⟩ | ⟨h, -⟩
    · omega
    · rw [h]; rfl
    · omega
   ·
    show headAll _ (Kd.kids b) [_] = true
    rw [ky]
    refine headAll_true (List.all_eq_true.2 fun v hv => ?_)
    rw [List.mem_singleton.1 hv]
    exact ih y (n + 1) a (p + 1) t _ _ _ (gb y (by rw [ky]; exact List.mem_cons_self ..)) hga hgt hf' hh
  ·
   rw [widT_ll hb ky kx]
   refine hasK_yes (by rw [hb]; rfl) ?_ (fun h => by omega) (fun _ => ?_)
   ·
    rcases hnb with ⟨h, -⟩ | ⟨-, h, -⟩ | ⟨h, -⟩
    · omega
    · rw [h]; rfl
    · omega
   ·
    show headAll _ (Kd.kids b) ((Nd.kids t).map _) = true
    rw [ky]
    refine headAll_true (List.all_eq_true.2 fun v hv => ?_)
    obtain ⟨u, hu', rfl⟩ := List.mem_map.1 hv
    exact ih y n x p u _ _ _ (gb y (by rw [ky]; exact List.mem_cons_self ..)) (ga x (by rw [kx]; exact List.mem_cons_self ..)) (gt u hu') hf' (hu u hu')
  ·
   rw [widT_ff hb]
   refine hasK_yes (by rw [hb]; rfl) rfl (fun _ => ?_) (fun h => absurd hb h)
   show zipAll _ (Kd.kids b) (mapW _ _ _ _ _ _ _) = true
   have hl := mapW_length (f := fun y x u => widT m y n x p u) (z := noneT m) (ns := Kd.names a) (xs := Kd.kids a) (us := Nd.kids t) (Kd.names b) (Kd.kids b) hlb
   refine zipAll_true hl.symm fun j h1 h2 => ?_
   rw [mapW_get _ _ j (by omega) h1 h2]
   have hgy := gb _ (List.getElem_mem h1)
   rcases field_pair (us := Nd.kids t) hAa hla hlt (hff j (by omega) h1) with ⟨i, i1, i2, i3, he, hat, hfi⟩ | ⟨-, hat, h6⟩
   ·
    rw [hat]
    exact ih _ n _ p _ _ _ _ hgy (ga _ (List.getElem_mem i2)) (gt _ (List.getElem_mem i3)) hfi (hkk i i2 i3)
   ·
    rw [hat]
    exact has_none m _ _ hgy h6
  ·
   rw [widT_leaf hb]
   have hs := (hasK_get hh).1
   refine hasK_yes (by rw [← ha, hs]; rfl) (by rw [nb]; rfl) (fun h => by omega) (fun _ => ?_)
   show headAll _ _ [] = true
   cases Kd.kids b <;> rfl

theorem sumL_leW {α β : Type} {f : α → Nat} {g : β → Nat} {h : α → β} : ∀ (l : List α), (∀ x, x ∈ l → f x ≤ g (h x)) → sumL f l ≤ sumL g (l.map h)
 | [], _ => Nat.le_refl _
 | x :: r, hx => by
  simp only [List.map_cons, sumL]
  exact Nat.add_le_add (hx x (List.mem_cons_self ..)) (sumL_leW r fun y hy => hx y (List.mem_cons_of_mem _ hy))

theorem mapW_skip {α β γ δ : Type} {f : α → β → γ → δ} {z : α → δ} {c : ByteArray} {ns : List ByteArray} {x : β} {xs : List β} {u : γ} {us : List γ} : ∀ (ss : List ByteArray) (ys : List α), c ∉ ss → mapW f z (c :: ns) (x :: xs) (u :: us) ss ys = mapW f z ns xs us ss ys
 | [], _, _ => by simp [mapW]
 | _ :: _, [], _ => by simp [mapW]
 | s :: ss, y :: ys, h => by
  have hne : c ≠ s := fun e => h (by rw [e]; exact List.mem_cons_self ..)
  simp only [mapW]
  rw [mapW_skip ss ys (fun h' => h (List.mem_cons_of_mem _ h'))]
  rw [show atName2 (c :: ns) (x :: xs) (u :: us) s = atName2 ns xs us s by rw [atName2, if_neg hne]]

theorem sumW {α β γ δ : Type} {f : α → β → γ → δ} {z : α → δ} {g : γ → Nat} {h : δ → Nat} : ∀ (ss : List ByteArray) (ys : List α) (ns : List ByteArray) (xs : List β) (us : List γ), ss.length = ys.length → ns.length = xs.length → us.length = xs.length → Asc ss → Asc ns → (∀ s, s ∈ ns → s ∈ ss) →
  (∀ j (h1 : j < ss.length) (h2 : j < ys.length) x u, atName2 ns xs us ss[j] = some (x, u) → g u ≤ h (f ys[j] x u)) → sumL g us ≤ sumL h (mapW f z ns xs us ss ys) := by
 intro ss
 induction ss with
 | nil =>
  intro ys ns xs us _ h1 h2 _ _ hsub _
  cases ns with
  | nil =>
   have : us = [] := List.eq_nil_of_length_eq_zero (by rw [h2, ← h1]; rfl)
   rw [this]; exact Nat.zero_le _
  | cons n ns => exact absurd (hsub n (List.mem_cons_self ..)) (by simp)
 | cons s ss ih =>
  intro ys ns xs us hl h1 h2 hAs hAn hsub hle
  cases ys with
  | nil => cases hl
  | cons y ys =>
  have hAs' := (List.pairwise_cons.1 hAs)
  cases ns with
  | nil =>
   have : us = [] := List.eq_nil_of_length_eq_zero (by rw [h2, ← h1]; rfl)
   rw [this]; exact Nat.zero_le _
  | cons n ns =>
  cases xs with
  | nil => cases h1
  | cons x xs =>
  cases us with
  | nil => cases h2
  | cons u us =>
  have hAn' := (List.pairwise_cons.1 hAn)
  have hl' : ss.length = ys.length := by simpa using hl
  by_cases hns : n = s
  ·
   subst hns
   have hnot : n ∉ ss := fun h => by have := hAs'.1 n h; rw [lt_irr] at this; cases this
   have h0 := hle 0 (by simp) (by simp) x u (by simp [atName2])
   simp only [mapW, sumL]
   rw [mapW_skip ss ys hnot]
   rw [show atName2 (n :: ns) (x :: xs) (u :: us) n = some (x, u) by simp [atName2]]
   refine Nat.add_le_add (by simpa using h0) (ih ys ns xs us hl' (by simpa using h1) (by simpa using h2) hAs'.2 hAn'.2 (fun r hr => ?_) (fun j j1 j2 x' u' hat => ?_))
   ·
    rcases List.mem_cons.1 (hsub r (List.mem_cons_of_mem _ hr)) with h | h
    · have := hAn'.1 r hr; rw [h, lt_irr] at this; cases this
    · exact h
   ·
    have hne : n ≠ ss[j] := fun e => hnot (by rw [e]; exact List.getElem_mem j1)
    have := hle (j + 1) (by simpa using j1) (by simpa using j2) x' u' (by simpa [atName2, hne] using hat)
    simpa using this
  ·
   have hn' : n ∈ ss := by
    rcases List.mem_cons.1 (hsub n (List.mem_cons_self ..)) with h | h
    · exact absurd h hns
    · exact h
   have hsub' : ∀ r, r ∈ n :: ns → r ∈ ss := fun r hr => by
    rcases List.mem_cons.1 (hsub r hr) with h | h
    ·
     exfalso
     have hsn := hAs'.1 n hn'
     rcases List.mem_cons.1 hr with h2 | h2
     · exact hns (h2.symm.trans h)
     ·
      have := hAn'.1 r h2
      rw [h] at this
      have := lt_tr hsn this
      rw [lt_irr] at this; cases this
    · exact h
   have := ih ys (n :: ns) (x :: xs) (u :: us) hl' h1 h2 hAs'.2 hAn hsub' (fun j j1 j2 x' u' hat => by
    have := hle (j + 1) (by simpa using j1) (by simpa using j2) x' u' (by simpa using hat)
    simpa using this)
   simp only [mapW]
   refine Nat.le_trans this ?_
   simp only [sumL]
   omega

theorem cnt_wid : ∀ (m : Nat) (b : K m) (n : Nat) (a : K n) (p : Nat) (t : T p) (d d' e : Int), goodK m b d' = true → goodK n a d = true → goodT p t e = true → fitsK m b n a = true → hasK n a p t = true → cntT p t ≤ cntT m (widT m b n a p t) := by
 intro m
 induction m with
 | zero => intro b; exact Empty.elim (show Empty from b)
 | succ m ih =>
  intro b n a p t d d' e hgb hga hgt hf hh
  cases n with
  | zero => exact Empty.elim (show Empty from a)
  | succ n =>
  cases p with
  | zero => exact Empty.elim (show Empty from t)
  | succ p =>
  have gb := goodK_all hgb
  have ga := goodK_all hga
  have gt := goodT_all hgt
  rcases fits_ways hgb hga hgt hf hh with ⟨y, x, hb, ha, ky, kx, hf', hu⟩ | ⟨y, hb, ha, ky, hf'⟩ | ⟨y, x, hb, ha, ky, kx, hf', hu⟩ | ⟨hb, ha, hlb, hla, hlt, hAa, hAb, hsub, hff, hkk⟩ | ⟨hb, ha, nb, kb, kt⟩
  ·
   rw [widT_mm hb ha ky kx]
   show 1 + sumL (fun k => cntT p k) (Nd.kids t) ≤ 1 + sumL (fun k => cntT m k) ((Nd.kids t).map _)
   refine Nat.add_le_add_left (sumL_leW _ fun u hu' => ?_) 1
   exact ih y n x p u _ _ _ (gb y (by rw [ky]; exact List.mem_cons_self ..)) (ga x (by rw [kx]; exact List.mem_cons_self ..)) (gt u hu') hf' (hu u hu')
  ·
   rw [widT_xm hb ha ky]
   show cntT (p + 1) t ≤ 1 + sumL (fun k => cntT m k) [_]
   have := ih y (n + 1) a (p + 1) t _ _ _ (gb y (by rw [ky]; exact List.mem_cons_self ..)) hga hgt hf' hh
   simp only [sumL]
   omega
  ·
   rw [widT_ll hb ky kx]
   show 1 + sumL (fun k => cntT p k) (Nd.kids t) ≤ 1 + sumL (fun k => cntT m k) ((Nd.kids t).map _)
   refine Nat.add_le_add_left (sumL_leW _ fun u hu' => ?_) 1
   exact ih y n x p u _ _ _ (gb y (by rw [ky]; exact List.mem_cons_self ..)) (ga x (by rw [kx]; exact List.mem_cons_self ..)) (gt u hu') hf' (hu u hu')
  ·
   rw [widT_ff hb]
   show 1 + sumL (fun k => cntT p k) (Nd.kids t) ≤ 1 + sumL (fun k => cntT m k) (mapW _ _ _ _ _ _ _)
   refine Nat.add_le_add_left (sumW _ _ _ _ _ hlb hla hlt hAb hAa hsub fun j h1 h2 x u hat => ?_) 1
   have hgy := gb _ (List.getElem_mem h2)
   rcases field_pair (us := Nd.kids t) hAa hla hlt (hff j h1 h2) with ⟨i, i1, i2, i3, he, hat', hfi⟩ | ⟨-, hat', h6⟩
   ·
    rw [hat'] at hat
    cases hat
    exact ih _ n _ p _ _ _ _ hgy (ga _ (List.getElem_mem i2)) (gt _ (List.getElem_mem i3)) hfi (hkk i i2 i3)
   · rw [hat'] at hat; cases hat
  ·
   rw [widT_leaf hb]
   show 1 + sumL (fun k => cntT p k) (Nd.kids t) ≤ 1 + sumL (fun k => cntT m k) []
   rw [kt]
   exact Nat.le_refl _

theorem nd_eta {m : Nat} {t : T (m + 1)} {so nu : Int} {tx : ByteArray} {ns : List ByteArray} {ks : List (T m)} (h1 : Nd.sort t = so) (h2 : Nd.num t = nu) (h3 : Nd.text t = tx) (h4 : Nd.names t = ns) (h5 : Nd.kids t = ks) : mkT m so nu tx ns ks = t := by
 subst h1 h2 h3 h4 h5
 rfl

theorem goodT_bare {n : Nat} {t : T (n + 1)} {d : Int} (h : goodT (n + 1) t d = true) (hs : Nd.sort t = 4 ∨ Nd.sort t = 5 ∨ Nd.sort t = 6) : Nd.num t = 0 ∧ Nd.text t = ByteArray.empty := by
 simp only [goodT, Bool.and_eq_true] at h
 have ha : aloneF (Nd.sort t) (Nd.num t) (Nd.text t) (Nd.names t) (Nd.kids t).length = true := h.1.2
 have he : ∀ x : ByteArray, x.toList.isEmpty = true → x = ByteArray.empty := fun x hx => by
  rw [ByteArray.toList_eq] at hx
  have : x.data.toList = [] := List.isEmpty_iff.1 hx
  have h2 : x.data = #[] := by rw [← Array.toArray_toList (xs := x.data), this]
  cases x with
  | mk data => simp only at h2; rw [h2]; rfl
 unfold aloneF at ha
 rcases hs with hs | hs | hs
 ·
  rw [hs] at ha
  simp only [show ¬ ((4 : Int) = 1) by decide, show ¬ ((4 : Int) = 2) by decide, show ¬ ((4 : Int) = 3) by decide, if_false, if_true, Bool.and_eq_true, beq_iff_eq] at ha
  exact ⟨ha.1.1.1, he _ ha.1.1.2⟩
 ·
  rw [hs] at ha
  simp only [show ¬ ((5 : Int) = 1) by decide, show ¬ ((5 : Int) = 2) by decide, show ¬ ((5 : Int) = 3) by decide, show ¬ ((5 : Int) = 4) by decide, if_false, if_true, Bool.and_eq_true, beq_iff_eq] at ha
  exact ⟨ha.1.1.1, he _ ha.1.1.2⟩
 ·
  rw [hs] at ha
  simp only [show ¬ ((6 : Int) = 1) by decide, show ¬ ((6 : Int) = 2) by decide, show ¬ ((6 : Int) = 3) by decide, show ¬ ((6 : Int) = 4) by decide, show ¬ ((6 : Int) = 5) by decide, if_false, if_true, Bool.and_eq_true, beq_iff_eq] at ha
  exact ⟨ha.1.1.1, he _ ha.1.1.2⟩

theorem wid_self : ∀ (m : Nat) (a : K m) (t : T m) (d e : Int), goodK m a d = true → goodT m t e = true → hasK m a m t = true → widT m a m a m t = t := by
 intro m
 induction m with
 | zero => intro a; exact Empty.elim (show Empty from a)
 | succ m ih =>
  intro a t d e hga hgt hh
  have ga := goodK_all hga
  have gt := goodT_all hgt
  obtain ⟨hs, hnm, -, -⟩ := hasK_get hh
  have hself := fitsK_self (m + 1) a d hga
  rcases fits_ways hga hga hgt hself hh with ⟨y, x, hb, ha, ky, kx, hf', hu⟩ | ⟨y, hb, ha, ky, hf'⟩ | ⟨y, x, hb, ha, ky, kx, hf', hu⟩ | ⟨hb, ha, hlb, hla, hlt, hAa, hAb, hsub, hff, hkk⟩ | ⟨hb, ha, nb, kb, kt⟩
  ·
   rw [widT_mm hb ha ky kx]
   obtain ⟨b1, b2⟩ := goodT_bare hgt (by omega)
   have hxy : x = y := by rw [ky] at kx; exact ((List.cons.inj kx).1).symm
   subst hxy
   refine nd_eta (by omega) b1 b2 (by rcases goodK_kids hga with ⟨h, -⟩ | ⟨-, h, -⟩ | ⟨h, -⟩ <;> first | omega | (rw [← hnm, h])) ?_
   refine (List.map_congr_left (g := id) fun u hu' => ?_).trans (List.map_id _) |>.symm
   exact ih x u _ _ (ga x (by rw [ky]; exact List.mem_cons_self ..)) (gt u hu') (hu u hu')
  · exact absurd hb ha
  ·
   rw [widT_ll hb ky kx]
   obtain ⟨b1, b2⟩ := goodT_bare hgt (by omega)
   have hxy : x = y := by rw [ky] at kx; exact ((List.cons.inj kx).1).symm
   subst hxy
   refine nd_eta (by omega) b1 b2 (by rcases goodK_kids hga with ⟨h, -⟩ | ⟨-, h, -⟩ | ⟨h, -⟩ <;> first | omega | (rw [← hnm, h])) ?_
   refine (List.map_congr_left (g := id) fun u hu' => ?_).trans (List.map_id _) |>.symm
   exact ih x u _ _ (ga x (by rw [ky]; exact List.mem_cons_self ..)) (gt u hu') (hu u hu')
  ·
   rw [widT_ff hb]
   obtain ⟨b1, b2⟩ := goodT_bare hgt (by omega)
   refine nd_eta (by omega) b1 b2 hnm.symm ?_
   have hl := mapW_length (f := fun y x u => widT m y m x m u) (z := noneT m) (ns := Kd.names a) (xs := Kd.kids a) (us := Nd.kids t) (Kd.names a) (Kd.kids a) hlb
   refine List.ext_getElem (by rw [hl]; exact hlt) fun j h1 h2 => ?_
   have hjk : j < (Kd.kids a).length := by omega
   rw [mapW_get _ _ j (by omega) hjk h2, atName2_yes _ _ _ j (by omega) hjk h1 hAa]
   exact (ih _ _ _ _ (ga _ (List.getElem_mem hjk)) (gt _ (List.getElem_mem h1)) (hkk j hjk h1)).symm
  ·
   rw [widT_leaf hb]
   exact nd_eta rfl rfl rfl (by rw [← hnm, nb]) kt

end Go.Proofs.YtpalkdcgbbbmeaaGreatDoor

/-
 Plain mathematics: what comes of widening is good, but for the number of its parts.
-/
namespace Go.Proofs.YtpalkdcgbbbmeaaGreatDoor
open Go.RowKit

theorem good_mk {m : Nat} {so nu : Int} {tx : ByteArray} {ns : List ByteArray} {ks : List (T m)} {d : Int} (hd : d ≤ 6) (ha : aloneF so nu tx ns ks.length = true) (hk : ∀ k, k ∈ ks → goodT m k (d + 1) = true) : goodT (m + 1) (mkT m so nu tx ns ks) d = true := by
 show (decide (d ≤ 6) && aloneF so nu tx ns ks.length && ks.all (fun k => goodT m k (d + 1))) = true
 rw [decide_eq_true hd, ha, List.all_eq_true.2 hk]
 rfl

theorem alone_six (k : Nat) (h : k ≤ 1) : aloneF 6 0 ByteArray.empty [] k = true := by
 have hk : (k : Int) ≤ 1 := by omega
 unfold aloneF
 simp only [show ¬ ((6 : Int) = 1) by decide, show ¬ ((6 : Int) = 2) by decide, show ¬ ((6 : Int) = 3) by decide, show ¬ ((6 : Int) = 4) by decide, show ¬ ((6 : Int) = 5) by decide, if_false, if_true, decide_eq_true hk]
 simp [ByteArray.toList_eq]

theorem good_none : ∀ (m : Nat) (y : K m) (d : Int), goodK m y d = true → goodT m (noneT m y) d = true
 | 0, y, _, _ => Empty.elim (show Empty from y)
 | m + 1, y, d, hg => good_mk (by simp only [goodK, Bool.and_eq_true, decide_eq_true_eq] at hg; exact hg.1.1) (alone_six 0 (by omega)) (fun k hk => by cases hk)

theorem good_alone {p : Nat} {t : T (p + 1)} {e : Int} (h : goodT (p + 1) t e = true) : aloneF (Nd.sort t) (Nd.num t) (Nd.text t) (Nd.names t) (Nd.kids t).length = true := by
 simp only [goodT, Bool.and_eq_true] at h
 exact h.1.2

theorem good_wid : ∀ (m : Nat) (b : K m) (n : Nat) (a : K n) (p : Nat) (t : T p) (d d' e : Int), goodK m b d' = true → goodK n a d = true → goodT p t e = true → fitsK m b n a = true → hasK n a p t = true → goodT m (widT m b n a p t) d' = true := by
 intro m
 induction m with
 | zero => intro b; exact Empty.elim (show Empty from b)
 | succ m ih =>
  intro b n a p t d d' e hgb hga hgt hf hh
  cases n with
  | zero => exact Empty.elim (show Empty from a)
  | succ n =>
  cases p with
  | zero => exact Empty.elim (show Empty from t)
  | succ p =>
  have gb := goodK_all hgb
  have ga := goodK_all hga
  have gt := goodT_all hgt
  have hd : d' ≤ 6 := by simp only [goodK, Bool.and_eq_true, decide_eq_true_eq] at hgb; exact hgb.1.1
  have hal := good_alone hgt
  obtain ⟨hs, hnm, -, -⟩ := hasK_get hh
  rcases fits_ways hgb hga hgt hf hh with ⟨y, x, hb, ha, ky, kx, hf', hu⟩ | ⟨y, hb, ha, ky, hf'⟩ | ⟨y, x, hb, ha, ky, kx, hf', hu⟩ | ⟨hb, ha, hlb, hla, hlt, hAa, hAb, hsub, hff, hkk⟩ | ⟨hb, ha, nb, kb, kt⟩
  ·
   rw [widT_mm hb ha ky kx]
   obtain ⟨b1, b2⟩ := goodT_bare hgt (by omega)
   have hn : Nd.names t = [] := (goodT_kids hgt).2.1 (by omega)
   rw [show Nd.sort t = 6 by omega, b1, b2, hn] at hal
   refine good_mk hd (by rw [List.length_map]; exact hal) fun v hv => ?_
   obtain ⟨u, hu', rfl⟩ := List.mem_map.1 hv
   exact ih y n x p u _ _ _ (gb y (by rw [ky]; exact List.mem_cons_self ..)) (ga x (by rw [kx]; exact List.mem_cons_self ..)) (gt u hu') hf' (hu u hu')
  ·
   rw [widT_xm hb ha ky]
   refine good_mk hd (alone_six 1 (by omega)) fun v hv => ?_
   rw [List.mem_singleton.1 hv]
   exact ih y (n + 1) a (p + 1) t _ _ _ (gb y (by rw [ky]; exact List.mem_cons_self ..)) hga hgt hf' hh
  ·
   rw [widT_ll hb ky kx]
   obtain ⟨b1, b2⟩ := goodT_bare hgt (by omega)
   have hn : Nd.names t = [] := (goodT_kids hgt).2.1 (by omega)
   rw [show Nd.sort t = 4 by omega, b1, b2, hn] at hal
   refine good_mk hd (by rw [List.length_map]; exact hal) fun v hv => ?_
   obtain ⟨u, hu', rfl⟩ := List.mem_map.1 hv
   exact ih y n x p u _ _ _ (gb y (by rw [ky]; exact List.mem_cons_self ..)) (ga x (by rw [kx]; exact List.mem_cons_self ..)) (gt u hu') hf' (hu u hu')
  ·
   rw [widT_ff hb]
   have hrb : riseB (Kd.names b) = true := by
    rcases goodK_kids hgb with ⟨h, -⟩ | ⟨h, -⟩ | ⟨-, -, h⟩
    · omega
    · omega
    · exact h
   have hl := mapW_length (f := fun y x u => widT m y n x p u) (z := noneT m) (ns := Kd.names a) (xs := Kd.kids a) (us := Nd.kids t) (Kd.names b) (Kd.kids b) hlb
   refine good_mk hd ?_ fun v hv => ?_
   ·
    rw [hl]
    unfold aloneF
    simp only [show ¬ ((5 : Int) = 1) by decide, show ¬ ((5 : Int) = 2) by decide, show ¬ ((5 : Int) = 3) by decide, show ¬ ((5 : Int) = 4) by decide, if_false, if_true, hrb, hlb]
    simp [ByteArray.toList_eq]
   ·
    obtain ⟨j, hj, rfl⟩ := List.getElem_of_mem hv
    have hjk : j < (Kd.kids b).length := by omega
    rw [mapW_get _ _ j (by omega) hjk hj]
    have hgy := gb _ (List.getElem_mem hjk)
    rcases field_pair (us := Nd.kids t) hAa hla hlt (hff j (by omega) hjk) with ⟨i, i1, i2, i3, he, hat, hfi⟩ | ⟨-, hat, h6⟩
    ·
     rw [hat]
     exact ih _ n _ p _ _ _ _ hgy (ga _ (List.getElem_mem i2)) (gt _ (List.getElem_mem i3)) hfi (hkk i i2 i3)
    ·
     rw [hat]
     exact good_none m _ _ hgy
  ·
   rw [widT_leaf hb]
   have hn : Nd.names t = [] := ((goodT_kids hgt).1 (by omega)).1
   rw [hn, kt] at hal
   exact good_mk hd hal (fun v hv => by cases hv)

end Go.Proofs.YtpalkdcgbbbmeaaGreatDoor

/-
 The specification's l3Kid: the schema of a name in a form.
-/
namespace Go.Proofs.YtpalkdcgbbbmeaaGreatDoor
open Go.RowKit

theorem zero3_cells {w : World} {N : Nat} (h : w.heap[N]? = some (.cells #[.int .i64 0, .slice none 0 0, .slice none 0 0] 26 (0, 0))) :
  (w.cell? ⟨N, 0, none⟩ = some (.int .i64 0) ∧ w.cell? ⟨N, 1, none⟩ = some (.slice none 0 0) ∧ w.cell? ⟨N, 2, none⟩ = some (.slice none 0 0)) ∧
   w.frozen? ⟨N, 0, none⟩ = false ∧ w.frozen? ⟨N, 1, none⟩ = false ∧ w.frozen? ⟨N, 2, none⟩ = false := by
 refine ⟨⟨?_, ?_, ?_⟩, ?_, ?_, ?_⟩ <;> simp [World.cell?, World.frozen?, h]

set_option maxRecDepth 20000 in
set_option maxHeartbeats 1000000 in
theorem l3Kid_yes (S : Nat → Prop) (n : Nat) (k : K (n + 1)) (c0 c1 c2 : Value) (x : ByteArray) (w : World) (hk : KindIn S w (n + 1) k c0 c1 c2) (hB : ∀ b, S b → b < w.heap.size)
  (i : Nat) (hi : i < (Kd.names k).length) (hik : i < (Kd.kids k).length) (hx : (Kd.names k)[i] = x) (hall : ∀ q (h : q < (Kd.names k).length), q < i → (Kd.names k)[q] ≠ x) :
  Calls Tryz.prog 91 #[.agg #[c0, c1, c2], .string x] w fun e w' => Below w.heap.size w w' ∧ ∃ g0 g1 g2, e = .returned (.tuple #[.agg #[g0, g1, g2], .bool true]) ∧ KindIn S w' n (Kd.kids k)[i] g0 g1 g2 := by
 obtain ⟨rfl, -, hk3, hk4⟩ := hk
 obtain ⟨na, nc, rfl, hnl, -, hnc⟩ := id hk3
 obtain ⟨ka, kc, rfl, hkl, hkc⟩ := id hk4
 unfold maxLen at hnl hkl
 obtain ⟨b2, off2, rfl, hbB2, hcl2⟩ := hkc (by intro h; rw [h] at hik; simp at hik)
 obtain ⟨g0, g1, g2, f0, f1, f2, hin⟩ := hcl2 i hik
 obtain ⟨u0, ua, ul, uc, va, vl, vc, rfl, rfl, rfl⟩ := hin.shape
 obtain ⟨b, off, rfl, hbB, hcl⟩ := hnc (by intro h; rw [h] at hi; simp at hi)
 obtain ⟨W0, hW0⟩ : ∃ W0, W0 = (w.alloc (.cells #[.int .i64 (Kd.sort k), .slice (some ⟨b, off, none⟩) (Kd.names k).length nc, .slice (some ⟨b2, off2, none⟩) (Kd.kids k).length kc] 26)).alloc (.cells #[.int .i64 0, .slice none 0 0, .slice none 0 0] 26) := ⟨_, rfl⟩
 have hb0 : Below w.heap.size w W0 := by rw [hW0]; exact ((Below.refl _ _).alloc (Nat.le_refl _) _).alloc (by simp) _
 have hx3 : Box3 W0 w.heap.size (.int .i64 (Kd.sort k)) (.slice (some ⟨b, off, none⟩) (Kd.names k).length nc) (.slice (some ⟨b2, off2, none⟩) (Kd.kids k).length kc) := by rw [hW0]; exact (Box3.new w _ _ _ 26).keep ((Below.refl _ _).alloc (Nat.le_refl _) _)
 have hz : W0.heap[w.heap.size + 1]? = some (.cells #[.int .i64 0, .slice none 0 0, .slice none 0 0] 26 (0, 0)) := by
  rw [hW0]
  have := heap_alloc_new (w.alloc (.cells #[.int .i64 (Kd.sort k), .slice (some ⟨b, off, none⟩) (Kd.names k).length nc, .slice (some ⟨b2, off2, none⟩) (Kd.kids k).length kc] 26)) (.cells #[.int .i64 0, .slice none 0 0, .slice none 0 0] 26)
  rw [show (w.alloc (.cells #[.int .i64 (Kd.sort k), .slice (some ⟨b, off, none⟩) (Kd.names k).length nc, .slice (some ⟨b2, off2, none⟩) (Kd.kids k).length kc] 26)).heap.size = w.heap.size + 1 by simp] at this
  exact this
 have r0 := (hb0.cell (p := ⟨b2, off2 + i * 3, none⟩) (hB b2 hbB2)).trans f0
 have r1 := (hb0.cell (p := ⟨b2, off2 + i * 3 + 1, none⟩) (hB b2 hbB2)).trans f1
 have r2 := (hb0.cell (p := ⟨b2, off2 + i * 3 + 2, none⟩) (hB b2 hbB2)).trans f2
 obtain ⟨⟨z0, z1, z2⟩, q0, q1, q2⟩ := zero3_cells hz
 obtain ⟨i0, i1, i2⟩ := hx3
 have HIN : Hid (KindIn S (put3 W0 (w.heap.size + 1) 0 (.int .i64 u0) (.slice ua ul uc) (.slice va vl vc)) n (Kd.kids k)[i] (.int .i64 u0) (.slice ua ul uc) (.slice va vl vc) ∧ Below w.heap.size w (put3 W0 (w.heap.size + 1) 0 (.int .i64 u0) (.slice ua ul uc) (.slice va vl vc))) :=
  ⟨hin.keep (fun b hb => (put3_other (by have := hB b hb; omega)).trans (hb0.block b (hB b hb))) (fun _ h => h), put3_below hb0 (by omega)⟩
 have HC : Hid (∀ j (h : j < (Kd.names k).length), W0.cell? ⟨b, off + j, none⟩ = some (.string (Kd.names k)[j])) := fun j h => (hb0.cell (p := ⟨b, off + j, none⟩) (hB b hbB)).trans (hcl j h)
 have hil : (i : Int) < ((Kd.names k).length : Int) := by omega
 have hikl : (i : Int) < ((Kd.kids k).length : Int) := by omega
 clear hk3 hk4 hnc hkc hcl hcl2 hin f0 f1 f2 hb0 hz
 go_enter Tryz.func91, Tryz.ntmps91
 go_wp2_with fail
 rw [← hW0]
 clear hW0
 go_loopw [6] (fun iv wr => ∃ j : Nat, j ≤ i ∧ iv = .int .i64 j ∧ wr = W0) (fun iv _ => i - (intOf iv).toNat)
 case atStart => exact ⟨0, Nat.zero_le _, rfl, rfl⟩
 case round =>
  obtain ⟨j, hj, rfl, rfl⟩ := hrel
  have hlt : j < (Kd.names k).length := by omega
  have hlti : (j : Int) < ((Kd.names k).length : Int) := by omega
  have f0 := HC.out j hlt
  by_cases hji : j = i
  ·
   subst hji
   have heq : ((Kd.names k)[j].toList == x.toList) = true := by rw [str_beq]; simpa using hx
   generalize (Kd.names k)[j] = s1 at *
   go_wp2_with fail
   refine bodyPost_ret (v := .tuple #[.agg #[.int .i64 u0, .slice ua ul uc, .slice va vl vc], .bool true]) (by simp [results, Tryz.results91, go_sem, z0, z1, z2]) rfl ?_
   exact ⟨HIN.out.2, _, _, _, rfl, HIN.out.1⟩
  ·
   have heq : ((Kd.names k)[j].toList == x.toList) = false := by rw [str_beq]; simpa using hall j hlt (by omega)
   generalize (Kd.names k)[j] = s1 at *
   go_wp2_with fail
   go_roundw
   case rel => exact ⟨j + 1, by omega, by go_num, by trivial⟩
   case measure => simp [intOf]; omega

set_option maxRecDepth 20000 in
set_option maxHeartbeats 1000000 in
theorem l3Kid_no (S : Nat → Prop) (n : Nat) (k : K (n + 1)) (c0 c1 c2 : Value) (x : ByteArray) (w : World) (hk : KindIn S w (n + 1) k c0 c1 c2) (hB : ∀ b, S b → b < w.heap.size)
  (hall : ∀ q (h : q < (Kd.names k).length), (Kd.names k)[q] ≠ x) :
  Calls Tryz.prog 91 #[.agg #[c0, c1, c2], .string x] w fun e w' => Below w.heap.size w w' ∧ e = .returned (.tuple #[.agg #[.int .i64 0, .slice none 0 0, .slice none 0 0], .bool false]) := by
 obtain ⟨rfl, -, hk3, hk4⟩ := hk
 obtain ⟨na, nc, rfl, hnl, -, hnc⟩ := id hk3
 obtain ⟨ka, kc, rfl, hkl, hkc⟩ := id hk4
 unfold maxLen at hnl hkl
 obtain ⟨W0, hW0⟩ : ∃ W0, W0 = (w.alloc (.cells #[.int .i64 (Kd.sort k), .slice na (Kd.names k).length nc, .slice ka (Kd.kids k).length kc] 26)).alloc (.cells #[.int .i64 0, .slice none 0 0, .slice none 0 0] 26) := ⟨_, rfl⟩
 have hb0 : Below w.heap.size w W0 := by rw [hW0]; exact ((Below.refl _ _).alloc (Nat.le_refl _) _).alloc (by simp) _
 have hx3 : Box3 W0 w.heap.size (.int .i64 (Kd.sort k)) (.slice na (Kd.names k).length nc) (.slice ka (Kd.kids k).length kc) := by rw [hW0]; exact (Box3.new w _ _ _ 26).keep ((Below.refl _ _).alloc (Nat.le_refl _) _)
 have hz : W0.heap[w.heap.size + 1]? = some (.cells #[.int .i64 0, .slice none 0 0, .slice none 0 0] 26 (0, 0)) := by
  rw [hW0]
  have := heap_alloc_new (w.alloc (.cells #[.int .i64 (Kd.sort k), .slice na (Kd.names k).length nc, .slice ka (Kd.kids k).length kc] 26)) (.cells #[.int .i64 0, .slice none 0 0, .slice none 0 0] 26)
  rw [show (w.alloc (.cells #[.int .i64 (Kd.sort k), .slice na (Kd.names k).length nc, .slice ka (Kd.kids k).length kc] 26)).heap.size = w.heap.size + 1 by simp] at this
  exact this
 obtain ⟨⟨z0, z1, z2⟩, q0, q1, q2⟩ := zero3_cells hz
 obtain ⟨i0, i1, i2⟩ := hx3
 have HIN : Hid (Below w.heap.size w (put3 W0 (w.heap.size + 1) 0 (.int .i64 0) (.slice none 0 0) (.slice none 0 0))) := put3_below hb0 (by omega)
 have HC : Hid (∀ j (h : j < (Kd.names k).length), ∃ b off, na = some ⟨b, off, none⟩ ∧ W0.cell? ⟨b, off + j, none⟩ = some (.string (Kd.names k)[j])) := fun j h => by
  obtain ⟨b, off, rfl, hbB, hcl⟩ := hnc (by intro h'; rw [h'] at h; simp at h)
  exact ⟨b, off, rfl, (hb0.cell (p := ⟨b, off + j, none⟩) (hB b hbB)).trans (hcl j h)⟩
 clear hk3 hk4 hnc hkc hb0 hz
 go_enter Tryz.func91, Tryz.ntmps91
 go_wp2_with fail
 rw [← hW0]
 clear hW0
 go_loopw [6] (fun iv wr => ∃ j : Nat, j ≤ (Kd.names k).length ∧ iv = .int .i64 j ∧ wr = W0) (fun iv _ => (Kd.names k).length - (intOf iv).toNat)
 case atStart => exact ⟨0, Nat.zero_le _, rfl, rfl⟩
 case round =>
  obtain ⟨j, hj, rfl, rfl⟩ := hrel
  by_cases hlt : j < (Kd.names k).length
  ·
   have hlti : (j : Int) < ((Kd.names k).length : Int) := by omega
   obtain ⟨b, off, rfl, f0⟩ := HC.out j hlt
   have heq : ((Kd.names k)[j].toList == x.toList) = false := by rw [str_beq]; simpa using hall j hlt
   generalize (Kd.names k)[j] = s1 at *
   go_wp2_with fail
   go_roundw
   case rel => exact ⟨j + 1, by omega, by go_num, by trivial⟩
   case measure => simp [intOf]; omega
  ·
   have hlti : ¬ (j : Int) < ((Kd.names k).length : Int) := by omega
   go_wp2_with fail
   refine bodyPost_ret (v := .tuple #[.agg #[.int .i64 0, .slice none 0 0, .slice none 0 0], .bool false]) (by simp [results, Tryz.results91, go_sem, z0, z1, z2]) rfl ?_
   exact ⟨HIN.out, rfl⟩

end Go.Proofs.YtpalkdcgbbbmeaaGreatDoor

/-
 The specification's KindHas: what it answers.
-/
namespace Go.Proofs.YtpalkdcgbbbmeaaGreatDoor
open Go.RowKit

def hasF (n : Nat) (k : K n) (m : Nat) (t : T m) : Bool := okK n k && okT m t && hasK n k m t

set_option maxRecDepth 100000 in
set_option maxHeartbeats 1000000 in
theorem specKHas_any (n m : Nat) (S S' : Nat → Prop) (k : K n) (t : T m) (c0 c1 c2 e0 e1 e2 e3 e4 : Value) (w : World) (hk : KindIn S w n k c0 c1 c2) (ht : TreeIn S' w m t e0 e1 e2 e3 e4) (hB : ∀ b, S b → b < w.heap.size) (hB' : ∀ b, S' b → b < w.heap.size) :
  Calls Tryz.prog 7 #[.agg #[c0, c1, c2], .agg #[e0, e1, e2, e3, e4]] w fun e w' => e = .returned (.bool (hasF n k m t)) ∧ Below w.heap.size w w' := by
 obtain ⟨x0, xa, xl, xc, ya, yl, yc, rfl, rfl, rfl⟩ := hk.shape
 obtain ⟨z0, z1, z2, za, zl, zc, va, vl, vc, rfl, rfl, rfl, rfl, rfl⟩ := ht.shape
 have hb0 : Below w.heap.size w ((w.alloc (.cells #[.int .i64 x0, .slice xa xl xc, .slice ya yl yc] 26)).alloc (.cells #[.int .i64 z0, .int .i64 z1, .string z2, .slice za zl zc, .slice va vl vc] 29)) :=
  ((Below.refl _ _).alloc (Nat.le_refl _) _).alloc (by simp) _
 have hx3 : Box3 ((w.alloc (.cells #[.int .i64 x0, .slice xa xl xc, .slice ya yl yc] 26)).alloc (.cells #[.int .i64 z0, .int .i64 z1, .string z2, .slice za zl zc, .slice va vl vc] 29)) w.heap.size
   (.int .i64 x0) (.slice xa xl xc) (.slice ya yl yc) := (Box3.new w _ _ _ 26).keep ((Below.refl _ _).alloc (Nat.le_refl _) _)
 have hx5 := Box5.new (w.alloc (.cells #[.int .i64 x0, .slice xa xl xc, .slice ya yl yc] 26)) (.int .i64 z0) (.int .i64 z1) (.string z2) (.slice za zl zc) (.slice va vl vc) 29
 rw [show (w.alloc (.cells #[.int .i64 x0, .slice xa xl xc, .slice ya yl yc] 26)).heap.size = w.heap.size + 1 by simp] at hx5
 obtain ⟨hk0, hB0⟩ := hk.step hB hb0
 obtain ⟨ht0, hB0'⟩ := ht.step hB' hb0
 have HE : Hid (hasF n k m t = (okK n k && okT m t && hasK n k m t)) := rfl
 clear hk ht
 go_enter Tryz.func7, Tryz.ntmps7
 go_wp2_with fail
 refine (specKOk_any n S k _ _ _ _ hk0 hB0).mono ?_
 rintro e w1 ⟨rfl, hb1⟩
 have hbw1 := below_step hb0 (by simp; omega) hb1
 obtain ⟨hk1, hB1⟩ := hk0.step hB0 hb1
 obtain ⟨ht1, hB1'⟩ := ht0.step hB0' hb1
 have hx31 := hx3.keep hb1
 have hx51 := hx5.keep hb1
 obtain ⟨i0, i1, i2⟩ := id hx31
 obtain ⟨j0, j1, j2, j3, j4⟩ := id hx51
 clear hb0 hb1 hx3 hx5 hk0 ht0 hB0 hB0'
 cases hokk : okK n k with
 | false =>
  have HF : Hid (hasF n k m t = false) := by show _ = _; rw [HE.out, hokk]; rfl
  clear hokk
  go_wp2_with fail
  go_ret
  exact ⟨ret_bool HF.out.symm, hbw1⟩
 | true =>
  have HOK : Hid (okK n k = true) := hokk
  clear hokk
  go_wp2_with fail
  refine (specOk_any m S' t _ _ _ _ _ _ ht1 hB1').mono ?_
  rintro e w2 ⟨rfl, hb2⟩
  have hbw2 := below_step hbw1 hbw1.size hb2
  obtain ⟨hk2, hB2⟩ := hk1.step hB1 hb2
  obtain ⟨ht2, hB2'⟩ := ht1.step hB1' hb2
  clear i0 i1 i2 j0 j1 j2 j3 j4
  obtain ⟨i0, i1, i2⟩ := hx31.keep hb2
  obtain ⟨j0, j1, j2, j3, j4⟩ := hx51.keep hb2
  clear hb2 hx31 hx51 hk1 ht1 hB1 hB1'
  cases hokt : okT m t with
  | false =>
   have HF : Hid (hasF n k m t = false) := by show _ = _; rw [HE.out, HOK.out, hokt]; rfl
   clear hokt
   go_wp2_with fail
   go_ret
   exact ⟨ret_bool HF.out.symm, hbw2⟩
  | true =>
   have HF : Hid (hasF n k m t = hasK n k m t) := by show _ = _; rw [HE.out, HOK.out, hokt]; rfl
   have hg1 : goodK n k 1 = true := by have := HOK.out; simp only [okK, Bool.and_eq_true] at this; exact this.1
   have hg2 : goodT m t 1 = true := by simp only [okT, Bool.and_eq_true] at hokt; exact hokt.1
   have HC : Hid (Calls Tryz.prog 33 _ _ _) := l2Has_any n S S' m k t _ _ _ _ _ _ _ _ 1 1 w2 hk2 ht2 hB2 hB2' hg1 hg2
   clear hokt hk2 ht2 hg1 hg2
   go_wp2_with fail
   refine HC.out.mono ?_
   rintro e w3 ⟨rfl, hb3⟩
   have hbw3 := below_step hbw2 hbw2.size hb3
   clear hb3 HC
   go_wp2_with fail
   go_ret
   exact ⟨ret_bool HF.out.symm, hbw3⟩

end Go.Proofs.YtpalkdcgbbbmeaaGreatDoor
