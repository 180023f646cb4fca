/-
  Plain mathematics: the bytes of events.
-/
import Derived.Test.YtpnnbdejneoccaaB1
namespace Go.Proofs.Ytpnnbdejneoccaa
open Go.RowKit

/-- A byte of a number. -/
def b8 (i : Int) : UInt8 := UInt8.ofNat (i % 256).toNat

/-- A short text, its length ahead. -/
def shortB (x : ByteArray) : List UInt8 := b8 x.size :: x.data.toList

/-- A number by sevens of bits, the lowest first. -/
def num7 : Nat → Int → List UInt8
  | 0, n => [b8 n]
  | f + 1, n => if n < 128 then [b8 n] else b8 (n % 128 + 128) :: num7 f (n / 128)

def numB (v : Int) : List UInt8 := (if v < 0 then 1 else 0) :: num7 5 (if v < 0 then -v else v)

/-- The bytes of each kid, its name ahead if there is one. -/
def partsP {α : Type} (f : α → List UInt8) (s : Int) (ns : List ByteArray) (ks : List α) : List (List UInt8) :=
  if s = 5 then List.zipWith (fun x k => shortB x ++ f k) ns ks else ks.map f

/-- The bytes of a tree. -/
def packT : (n : Nat) → T n → List UInt8
  | 0, _ => []
  | n + 1, t =>
    if Nd.sort t = 1 then b8 (Nd.sort t) :: numB (Nd.num t)
    else if Nd.sort t = 2 then b8 (Nd.sort t) :: shortB (Nd.text t)
    else if Nd.sort t = 3 then [b8 (Nd.sort t), b8 (Nd.num t)]
    else b8 (Nd.sort t) :: b8 (Nd.kids t).length :: (partsP (packT n) (Nd.sort t) (Nd.names t) (Nd.kids t)).flatten

/-- The bytes of an event. -/
def packE (n : Nat) (x : ByteArray) (v : Int) (t : T n) : List UInt8 := shortB x ++ b8 v :: packT n t

theorem num7_len : ∀ (f : Nat) (n : Int), 1 ≤ (num7 f n).length ∧ (num7 f n).length ≤ f + 1 := by
  intro f
  induction f with
  | zero => intro n; simp [num7]
  | succ f ih =>
    intro n
    unfold num7
    by_cases h : n < 128
    · rw [if_pos h]; simp
    · rw [if_neg h]; have := ih (n / 128); simp; omega

theorem numB_len (v : Int) : 2 ≤ (numB v).length ∧ (numB v).length ≤ 7 := by
  unfold numB; have := num7_len 5 (if v < 0 then -v else v); simp; omega

theorem shortB_len (x : ByteArray) : (shortB x).length = x.size + 1 := by simp [shortB]

theorem flat_le {l : List (List UInt8)} {β : Type} (ks : List β) (f : β → Nat) (hl : l.length = ks.length) (h : ∀ i (h1 : i < l.length) (h2 : i < ks.length), l[i].length ≤ f ks[i]) : l.flatten.length ≤ sumL f ks := by
  induction ks generalizing l with
  | nil =>
    have : l = [] := List.eq_nil_of_length_eq_zero (by simpa using hl)
    subst this
    simp [sumL]
  | cons k ks ih =>
    cases l with
    | nil => simp at hl
    | cons a l =>
      have h0 := h 0 (by simp) (by simp)
      simp only [List.getElem_cons_zero] at h0
      have := ih (l := l) (by simpa using hl) (fun i h1 h2 => by have := h (i + 1) (by simpa using h1) (by simpa using h2); simpa using this)
      simp only [List.flatten_cons, List.length_append, sumL]
      omega

theorem sumL_mul71 {β : Type} (f : β → Nat) : ∀ ks : List β, sumL (fun k => 71 * f k) ks = 71 * sumL f ks := by
  intro ks
  induction ks with
  | nil => rfl
  | cons k ks ih => simp only [sumL, ih]; omega

theorem packT_len : ∀ (n : Nat) (t : T n) (d : Int), goodT n t d = true → 2 ≤ (packT n t).length ∧ (packT n t).length + 9 ≤ 71 * cntT n t := by
  intro n
  induction n with
  | zero => intro t d h; exact absurd h (by simp [goodT])
  | succ n ih =>
    intro t d h
    simp only [goodT, Bool.and_eq_true, List.all_eq_true] at h
    obtain ⟨⟨-, ha⟩, hk⟩ := h
    have hc : cntT (n + 1) t = 1 + sumL (fun k => cntT n k) (Nd.kids t) := rfl
    have ha' : aloneF (Nd.sort t) (Nd.num t) (Nd.text t) (Nd.names t) (Nd.kids t).length = true := ha
    unfold aloneF at ha'
    unfold packT
    by_cases h1 : Nd.sort t = 1
    · rw [if_pos h1]; have := numB_len (Nd.num t); simp; omega
    rw [if_neg h1]; rw [if_neg h1] at ha'
    by_cases h2 : Nd.sort t = 2
    · rw [if_pos h2]; rw [if_pos h2] at ha'
      have ht : (Nd.text t).size ≤ 60 := by simp [textB] at ha'; omega
      have := shortB_len (Nd.text t); simp; omega
    rw [if_neg h2]; rw [if_neg h2] at ha'
    by_cases h3 : Nd.sort t = 3
    · rw [if_pos h3]; simp; omega
    rw [if_neg h3]; rw [if_neg h3] at ha'
    have hfl : (partsP (packT n) (Nd.sort t) (Nd.names t) (Nd.kids t)).flatten.length ≤ 71 * sumL (fun k => cntT n k) (Nd.kids t) := by
      rw [← sumL_mul71]
      by_cases h5 : Nd.sort t = 5
      · have hx : (Nd.names t).length = (Nd.kids t).length ∧ riseB (Nd.names t) = true := by
          rw [if_neg (by omega), if_pos h5] at ha'
          simp at ha'
          exact ⟨by omega, ha'.2⟩
        unfold partsP
        rw [if_pos h5]
        refine flat_le _ _ (by rw [List.length_zipWith]; omega) (fun i i1 i2 => ?_)
        rw [List.getElem_zipWith, List.length_append, shortB_len]
        have := (ih (Nd.kids t)[i] (d + 1) (hk _ (List.getElem_mem i2))).2
        have := riseB_names _ hx.2 (Nd.names t)[i] (List.getElem_mem _)
        omega
      · unfold partsP
        rw [if_neg h5]
        refine flat_le _ _ (by rw [List.length_map]) (fun i i1 i2 => ?_)
        rw [List.getElem_map]
        have := (ih (Nd.kids t)[i] (d + 1) (hk _ (List.getElem_mem i2))).2
        omega
    simp only [List.length_cons]
    omega

end Go.Proofs.Ytpnnbdejneoccaa
