/-
  Several texts in one, in their order.
-/
import Derived.Test.YtlinplghgamgbaaGreatDoorRows
import Derived.Test.YtlinplghgamgbaaGreatDoorPlain
import Derived.WalkKit
import Derived.WalkSpells
import Derived.WalkLawsBesides
import Derived.Deep.OwnRows

/-
  Trees in memory: what it means that five cells hold a tree, all of whose memory lies below block B; and that this lasts while nothing below B is written.
-/
namespace Go.Proofs.YtlinplghgamgbaaGreatDoor
open Go.RowKit

/-- A fact laid behind Hid, its statement read off. -/
theorem hidF {p : Prop} (h : p) : Hid p := h

/-- A slice of texts, in blocks of S. -/
def StrsIn (S : Nat → Prop) (w : World) (l : List ByteArray) (v : Value) : Prop :=
  ∃ (ao : Option Addr) (cap : Nat), v = .slice ao l.length cap ∧ l.length ≤ maxLen ∧ (∀ s, s ∈ l → s.size ≤ maxLen) ∧
    (l ≠ [] → ∃ b off, ao = some ⟨b, off, none⟩ ∧ S b ∧ ∀ i (h : i < l.length), w.cell? ⟨b, off + i, none⟩ = some (.string l[i]))

/-- A slice of things of five cells each, in blocks of S. -/
def RowIn {α : Type} (S : Nat → Prop) (w : World) (R : α → Value → Value → Value → Value → Value → Prop) (l : List α) (v : Value) : Prop :=
  ∃ (ao : Option Addr) (cap : Nat), v = .slice ao l.length cap ∧ l.length ≤ maxLen ∧
    (l ≠ [] → ∃ b off, ao = some ⟨b, off, none⟩ ∧ S b ∧ ∀ i (h : i < l.length), ∃ c0 c1 c2 c3 c4, w.cell? ⟨b, off + i * 5, none⟩ = some c0 ∧ w.cell? ⟨b, off + i * 5 + 1, none⟩ = some c1 ∧
      w.cell? ⟨b, off + i * 5 + 2, none⟩ = some c2 ∧ w.cell? ⟨b, off + i * 5 + 3, none⟩ = some c3 ∧ w.cell? ⟨b, off + i * 5 + 4, none⟩ = some c4 ∧ R l[i] c0 c1 c2 c3 c4)

/-- Five cells hold a tree, its memory in blocks of S. -/
def TreeIn (S : Nat → Prop) (w : World) : (n : Nat) → T n → Value → Value → Value → Value → Value → Prop
  | 0, _, _, _, _, _, _ => False
  | n + 1, t, c0, c1, c2, c3, c4 => c0 = .int .i64 (Nd.sort t) ∧ c1 = .int .i64 (Nd.num t) ∧ c2 = .string (Nd.text t) ∧ (Nd.text t).size ≤ maxLen ∧
      (Lit.int .i64 (Nd.sort t)).wf = true ∧ (Lit.int .i64 (Nd.num t)).wf = true ∧ StrsIn S w (Nd.names t) c3 ∧ RowIn S w (TreeIn S w n) (Nd.kids t) c4

/-- The blocks of S are as they were. -/
def Same (S : Nat → Prop) (w w' : World) : Prop := ∀ b, S b → w'.heap[b]? = w.heap[b]?

theorem Same.cell {S : Nat → Prop} {w w' : World} (h : Same S w w') {p : Addr} (hp : S p.block) : w'.cell? p = w.cell? p := World.cell?_of_block (w := w) (h p.block hp)

theorem same_below {S : Nat → Prop} {B : Nat} {w w' : World} (h : Below B w w') (hS : ∀ b, S b → b < B) : Same S w w' := fun b hb => h.block b (hS b hb)

theorem StrsIn.keep {S S' : Nat → Prop} {w w' : World} {l : List ByteArray} {v : Value} (h : StrsIn S w l v) (hb : Same S w w') (hS : ∀ b, S b → S' b) : StrsIn S' w' l v := by
  obtain ⟨ao, cap, hv, hl, hs, hc⟩ := h
  refine ⟨ao, cap, hv, hl, hs, fun hne => ?_⟩
  obtain ⟨b, off, ha, hB, hcell⟩ := hc hne
  exact ⟨b, off, ha, hS b hB, fun i hi => (hb.cell (p := ⟨b, off + i, none⟩) hB).trans (hcell i hi)⟩

theorem RowIn.keep {α : Type} {S S' : Nat → Prop} {w w' : World} {R R' : α → Value → Value → Value → Value → Value → Prop} {l : List α} {v : Value} (h : RowIn S w R l v) (hb : Same S w w') (hS : ∀ b, S b → S' b)
    (hR : ∀ x c0 c1 c2 c3 c4, x ∈ l → R x c0 c1 c2 c3 c4 → R' x c0 c1 c2 c3 c4) : RowIn S' w' R' l v := by
  obtain ⟨ao, cap, hv, hl, hc⟩ := h
  refine ⟨ao, cap, hv, hl, fun hne => ?_⟩
  obtain ⟨b, off, ha, hB, hcell⟩ := hc hne
  refine ⟨b, off, ha, hS b hB, fun i hi => ?_⟩
  obtain ⟨c0, c1, c2, c3, c4, h0, h1, h2, h3, h4, hr⟩ := hcell i hi
  exact ⟨c0, c1, c2, c3, c4, (hb.cell (p := ⟨b, off + i * 5, none⟩) hB).trans h0, (hb.cell (p := ⟨b, off + i * 5 + 1, none⟩) hB).trans h1, (hb.cell (p := ⟨b, off + i * 5 + 2, none⟩) hB).trans h2,
    (hb.cell (p := ⟨b, off + i * 5 + 3, none⟩) hB).trans h3, (hb.cell (p := ⟨b, off + i * 5 + 4, none⟩) hB).trans h4, hR _ _ _ _ _ _ (List.getElem_mem hi) hr⟩

theorem TreeIn.keep {S S' : Nat → Prop} {w w' : World} (hb : Same S w w') (hS : ∀ b, S b → S' b) : ∀ {n : Nat} {t : T n} {c0 c1 c2 c3 c4 : Value}, TreeIn S w n t c0 c1 c2 c3 c4 → TreeIn S' w' n t c0 c1 c2 c3 c4 := by
  intro n
  induction n with
  | zero => intro t c0 c1 c2 c3 c4 h; exact h.elim
  | succ n ih =>
    intro t c0 c1 c2 c3 c4 h
    obtain ⟨h0, h1, h2, hs, hw0, hw1, h3, h4⟩ := h
    exact ⟨h0, h1, h2, hs, hw0, hw1, h3.keep hb hS, h4.keep hb hS fun x _ _ _ _ _ _ hx => ih hx⟩

theorem RowIn.keepT {S S' : Nat → Prop} {w w' : World} {n : Nat} {l : List (T n)} {v : Value} (h : RowIn S w (TreeIn S w n) l v) (hb : Same S w w') (hS : ∀ b, S b → S' b) : RowIn S' w' (TreeIn S' w' n) l v :=
  h.keep hb hS fun _ _ _ _ _ _ _ hx => hx.keep hb hS

/-- The world behind a call that made memory: what was there is as it was. -/
theorem below_step {B : Nat} {a b c : World} (h : Below B a b) (hs : B ≤ b.heap.size) (k : Below b.heap.size b c) : Below B a c := h.trans (k.mono hs)

theorem TreeIn.shape {S : Nat → Prop} {w : World} : ∀ {n : Nat} {t : T n} {c0 c1 c2 c3 c4 : Value}, TreeIn S w n t c0 c1 c2 c3 c4 →
    ∃ (s m : Int) (x : ByteArray) (a : Option Addr) (l c : Nat) (a' : Option Addr) (l' c' : Nat), c0 = .int .i64 s ∧ c1 = .int .i64 m ∧ c2 = .string x ∧ c3 = .slice a l c ∧ c4 = .slice a' l' c' := by
  intro n
  cases n with
  | zero => intro t c0 c1 c2 c3 c4 h; exact h.elim
  | succ n =>
    intro t c0 c1 c2 c3 c4 h
    obtain ⟨h0, h1, h2, hs, hw0, hw1, ⟨ao, cap, h3, -⟩, ⟨ao', cap', h4, -⟩⟩ := h
    exact ⟨_, _, _, _, _, _, _, _, _, h0, h1, h2, h3, h4⟩

/-- Five cells of a world, stored one behind the other. -/
def put5 (w : World) (b o : Nat) (g0 g1 g2 g3 g4 : Value) : World :=
  ((((w.setCell ⟨b, o, none⟩ g0).setCell ⟨b, o + 1, none⟩ g1).setCell ⟨b, o + 2, none⟩ g2).setCell ⟨b, o + 3, none⟩ g3).setCell ⟨b, o + 4, none⟩ g4

/-- What the cells of a row hold behind that. -/
def put5F (o : Nat) (F : Nat → Value) (g0 g1 g2 g3 g4 : Value) (j : Nat) : Value :=
  if j = o + 4 then g4 else if j = o + 3 then g3 else if j = o + 2 then g2 else if j = o + 1 then g1 else if j = o then g0 else F j

theorem put5_row {w : World} {b t N : Nat} {F : Nat → Value} (h : w.rowIs b t N F) (o : Nat) (g0 g1 g2 g3 g4 : Value) : (put5 w b o g0 g1 g2 g3 g4).rowIs b t N (put5F o F g0 g1 g2 g3 g4) :=
  ((((h.set o g0).set (o + 1) g1).set (o + 2) g2).set (o + 3) g3).set (o + 4) g4

theorem put5F_0 (o : Nat) (F : Nat → Value) (g0 g1 g2 g3 g4 : Value) : put5F o F g0 g1 g2 g3 g4 o = g0 := by simp [put5F]
theorem put5F_1 (o : Nat) (F : Nat → Value) (g0 g1 g2 g3 g4 : Value) : put5F o F g0 g1 g2 g3 g4 (o + 1) = g1 := by simp [put5F]
theorem put5F_2 (o : Nat) (F : Nat → Value) (g0 g1 g2 g3 g4 : Value) : put5F o F g0 g1 g2 g3 g4 (o + 2) = g2 := by simp [put5F]
theorem put5F_3 (o : Nat) (F : Nat → Value) (g0 g1 g2 g3 g4 : Value) : put5F o F g0 g1 g2 g3 g4 (o + 3) = g3 := by simp [put5F]
theorem put5F_4 (o : Nat) (F : Nat → Value) (g0 g1 g2 g3 g4 : Value) : put5F o F g0 g1 g2 g3 g4 (o + 4) = g4 := by simp [put5F]
theorem put5F_other (o : Nat) (F : Nat → Value) (g0 g1 g2 g3 g4 : Value) (j : Nat) (hj : j < o ∨ o + 5 ≤ j) : put5F o F g0 g1 g2 g3 g4 j = F j := by
  unfold put5F
  rw [if_neg (by omega), if_neg (by omega), if_neg (by omega), if_neg (by omega), if_neg (by omega)]

theorem put5_other {w : World} {b o : Nat} {g0 g1 g2 g3 g4 : Value} {k : Nat} (h : k ≠ b) : (put5 w b o g0 g1 g2 g3 g4).heap[k]? = w.heap[k]? := by
  unfold put5
  rw [Below.heap_setCell _ _ _ _ h, Below.heap_setCell _ _ _ _ h, Below.heap_setCell _ _ _ _ h, Below.heap_setCell _ _ _ _ h, Below.heap_setCell _ _ _ _ h]

theorem put5_size {w : World} {b o : Nat} {g0 g1 g2 g3 g4 : Value} : (put5 w b o g0 g1 g2 g3 g4).heap.size = w.heap.size := by
  simp [put5]

theorem put5_below {B : Nat} {a w : World} {b o : Nat} {g0 g1 g2 g3 g4 : Value} (h : Below B a w) (hb : B ≤ b) : Below B a (put5 w b o g0 g1 g2 g3 g4) :=
  ((((h.setCell hb g0).setCell hb g1).setCell hb g2).setCell hb g3).setCell hb g4

theorem rowIs_made_any (w : World) (z : Array Value) (n : Nat) (t : TypeId) : ∃ F, (w.alloc (.cells (madeCells z n) t)).rowIs w.heap.size t n F := by
  have h := World.rowIs_alloc w (madeCells z n) t (fun i => (madeCells z n).getD i undef) (fun i hi => by simp [hi])
  rw [size_madeCells] at h
  exact ⟨_, h⟩

theorem bcell {W w1 : World} (hb : Below W.heap.size W w1) : (∀ b o, b < W.heap.size → w1.cell? ⟨b, o, none⟩ = W.cell? ⟨b, o, none⟩) ∧ (∀ b o, b < W.heap.size → w1.frozen? ⟨b, o, none⟩ = W.frozen? ⟨b, o, none⟩) :=
  ⟨fun b o h => hb.cell (p := ⟨b, o, none⟩) h, fun b o h => hb.frozen (p := ⟨b, o, none⟩) h⟩

end Go.Proofs.YtlinplghgamgbaaGreatDoor

/-
  Plain mathematics of names and texts: which bytes a text may have, which texts are names, which names ascend; when a node is ok but for its kids; when a tree is ok.
-/
namespace Go.Proofs.YtlinplghgamgbaaGreatDoor
open Go.RowKit

def okByte (c : UInt8) : Bool := decide (32 ≤ (c.toNat : Int) ∧ (c.toNat : Int) ≤ 126 ∧ ¬ (c.toNat : Int) = 34)
def textB (s : ByteArray) : Bool := decide (s.size ≤ 60) && s.data.toList.all okByte
def nmByte (c : UInt8) : Bool := decide ((97 ≤ (c.toNat : Int) ∧ (c.toNat : Int) ≤ 122) ∨ (48 ≤ (c.toNat : Int) ∧ (c.toNat : Int) ≤ 57))
def upByte (c : UInt8) : Bool := decide (97 ≤ (c.toNat : Int) ∧ (c.toNat : Int) ≤ 122)
def nameB (s : ByteArray) : Bool := decide (1 ≤ s.size ∧ s.size ≤ 8) && upByte (s.data.toList.headD 0) && s.data.toList.all nmByte
def ltB (a b : ByteArray) : Bool := Op.bytesLess a.toList b.toList
def riseAt (l : List ByteArray) (i : Nat) : Bool := nameB (l.getD i ByteArray.empty) && (i == 0 || ltB (l.getD (i - 1) ByteArray.empty) (l.getD i ByteArray.empty))
def riseTo (l : List ByteArray) (k : Nat) : Bool := (List.range k).all (riseAt l)
def riseB (l : List ByteArray) : Bool := riseTo l l.length

theorem riseTo_succ (l : List ByteArray) (k : Nat) : riseTo l (k + 1) = (riseTo l k && riseAt l k) := by
  simp [riseTo, List.range_succ]

theorem riseTo_false (l : List ByteArray) (k : Nat) (h : k < l.length) (hf : riseAt l k = false) : riseB l = false := by
  unfold riseB riseTo
  rw [List.all_eq_false]
  exact ⟨k, List.mem_range.2 h, by simp [hf]⟩

theorem all_false_at {s : ByteArray} {p : UInt8 → Bool} (k : Nat) (h : k < s.size) (hf : p s[k] = false) : s.data.toList.all p = false := by
  rw [List.all_eq_false]
  exact ⟨s[k], by simp [ByteArray.getElem_eq_getElem_data], by simp [hf]⟩

theorem all_take_succ {s : ByteArray} {p : UInt8 → Bool} (k : Nat) (h : k < s.size) (ht : (s.data.toList.take k).all p = true) (hf : p s[k] = true) : (s.data.toList.take (k + 1)).all p = true := by
  rw [List.take_succ_eq_append_getElem (by simpa using h)]
  rw [List.all_append, ht]
  simpa [ByteArray.getElem_eq_getElem_data] using hf

theorem all_take_all {s : ByteArray} {p : UInt8 → Bool} (k : Nat) (h : s.size ≤ k) (ht : (s.data.toList.take k).all p = true) : s.data.toList.all p = true := by
  rw [List.take_of_length_le (by simpa using h)] at ht; exact ht

/-- A node is ok, but for its kids: by its parts, and how many kids there are. -/
def aloneF (s m : Int) (x : ByteArray) (l : List ByteArray) (kl : Nat) : Bool :=
  if s = 1 then decide (-999999999 ≤ m ∧ m ≤ 999999999) && x.toList.isEmpty && ((l.length : Int) == 0) && ((kl : Int) == 0)
  else if s = 2 then (m == 0) && textB x && ((l.length : Int) == 0) && ((kl : Int) == 0)
  else if s = 3 then decide (0 ≤ m ∧ m ≤ 1) && x.toList.isEmpty && ((l.length : Int) == 0) && ((kl : Int) == 0)
  else if s = 4 then (m == 0) && x.toList.isEmpty && ((l.length : Int) == 0) && decide ((kl : Int) ≤ 20)
  else if s = 5 then (m == 0) && x.toList.isEmpty && ((l.length : Int) == (kl : Int)) && riseB l
  else if s = 6 then (m == 0) && x.toList.isEmpty && ((l.length : Int) == 0) && decide ((kl : Int) ≤ 1)
  else false

def aloneB {α : Type} (t : Nd α) : Bool := aloneF t.sort t.num t.text t.names t.kids.length

/-- All nodes of a tree are ok by themselves and it is at most so deep. -/
def goodT : (n : Nat) → T n → Int → Bool
  | 0, _, _ => false
  | n + 1, t, d => decide (d ≤ 6) && aloneB (show Nd (T n) from t) && (Nd.kids t).all (fun k => goodT n k (d + 1))

/-- A tree is ok. -/
def okT (n : Nat) (t : T n) : Bool := goodT n t 1 && decide (cntT n t ≤ 120)

theorem cntT_pos : ∀ (n : Nat) (t : T n) (d : Int), goodT n t d = true → 1 ≤ cntT n t := by
  intro n t d h
  cases n with
  | zero => simp [goodT] at h
  | succ n => simp only [cntT]; omega

end Go.Proofs.YtlinplghgamgbaaGreatDoor

/-
  Plain mathematics: lists of bytes as texts; texts with a comma between; how long they are.
-/
namespace Go.Proofs.YtlinplghgamgbaaGreatDoor
open Go.RowKit

/-- A list of bytes as a text. -/
def bs (l : List UInt8) : ByteArray := ⟨l.toArray⟩

theorem bs_append (a b : List UInt8) : bs a ++ bs b = bs (a ++ b) := by
  apply ByteArray.ext
  simp [bs]

theorem bs_size (l : List UInt8) : (bs l).size = l.length := by simp [bs, ByteArray.size]

theorem bs_of (s : ByteArray) : bs s.data.toList = s := by
  apply ByteArray.ext; simp [bs]

theorem bs_toList (l : List UInt8) : (bs l).data.toList = l := by simp [bs]

/-- Texts with a comma between, each with what stands ahead of it. -/
def joinL : List (List UInt8) → List UInt8
  | [] => []
  | [x] => x
  | x :: y :: r => x ++ 44 :: joinL (y :: r)

theorem joinL_snoc (l : List (List UInt8)) (x : List UInt8) (h : l ≠ []) : joinL (l ++ [x]) = joinL l ++ 44 :: x := by
  induction l with
  | nil => exact absurd rfl h
  | cons a r ih =>
    cases r with
    | nil => simp [joinL]
    | cons b r => simp only [List.cons_append, joinL] at ih ⊢; rw [ih (by simp)]; simp

/-- What the kids of a form are called, each with its text. -/
def zipL : List ByteArray → List (List UInt8) → List (List UInt8)
  | a :: r, x :: s => (a.data.toList ++ 58 :: x) :: zipL r s
  | _, _ => []

/-- How long it is at most: a part at most 82 bytes. -/
def lenL (l : List (List UInt8)) : Nat := sumL (fun x => x.length + 10) l

theorem joinL_len (l : List (List UInt8)) : (joinL l).length ≤ lenL l := by
  induction l with
  | nil => simp [joinL]
  | cons a r ih =>
    cases r with
    | nil => simp [joinL, lenL, sumL]
    | cons b r => simp only [joinL, lenL, sumL, List.length_append, List.length_cons] at ih ⊢; omega

theorem zipL_len (a : List ByteArray) (l : List (List UInt8)) (h : ∀ s, s ∈ a → s.size ≤ 8) : (joinL (zipL a l)).length ≤ lenL l := by
  have key : ∀ (a : List ByteArray) (l : List (List UInt8)), (∀ s, s ∈ a → s.size ≤ 8) → (joinL (zipL a l)).length + (if (zipL a l).isEmpty then 0 else 1) ≤ lenL l := by
    intro a
    induction a with
    | nil => intro l _; simp [zipL, joinL]
    | cons s r ih =>
      intro l h
      cases l with
      | nil => simp [zipL, joinL]
      | cons x t =>
        have hs : s.size ≤ 8 := h s (List.mem_cons_self ..)
        have hs' : s.data.toList.length ≤ 8 := by simpa using hs
        have := ih t (fun u hu => h u (List.mem_cons_of_mem _ hu))
        simp only [zipL, lenL, sumL] at this ⊢
        cases hz : zipL r t with
        | nil => simp [joinL]; rw [hz] at this; simp [joinL] at this; simp at hs'; omega
        | cons y z =>
          rw [hz] at this
          simp only [joinL, List.length_append, List.length_cons] at this ⊢
          simp at this ⊢
          simp at hs'
          omega
  have := key a l h
  omega

theorem sumL_le {α : Type} (f g : α → Nat) (l : List α) (h : ∀ x, x ∈ l → f x ≤ g x) : sumL f l ≤ sumL g l := by
  induction l with
  | nil => simp [sumL]
  | cons a r ih =>
    have h1 := h a (List.mem_cons_self ..)
    have h2 := ih (fun x hx => h x (List.mem_cons_of_mem _ hx))
    simp only [sumL]; omega

theorem sumL_map {α β : Type} (f : β → Nat) (g : α → β) (l : List α) : sumL f (l.map g) = sumL (fun x => f (g x)) l := by
  induction l with
  | nil => rfl
  | cons a r ih => simp only [List.map_cons, sumL, ih]

theorem sumL_mul {α : Type} (c : Nat) (f : α → Nat) (l : List α) : sumL (fun x => c * f x) l = c * sumL f l := by
  induction l with
  | nil => simp [sumL]
  | cons a r ih => simp only [sumL, ih, Nat.mul_add]

theorem riseB_names (l : List ByteArray) (h : riseB l = true) : ∀ s, s ∈ l → s.size ≤ 8 := by
  intro s hs
  obtain ⟨i, hi, rfl⟩ := List.getElem_of_mem hs
  unfold riseB riseTo at h
  have := List.all_eq_true.1 h i (List.mem_range.2 hi)
  simp only [riseAt, Bool.and_eq_true, nameB, decide_eq_true_eq] at this
  have h2 := this.1.1.1.2
  simpa [List.getD, hi] using h2

theorem joinL_take_len (l : List (List UInt8)) (k : Nat) : (joinL (l.take k)).length ≤ (joinL l).length := by
  induction l generalizing k with
  | nil => simp [joinL]
  | cons a r ih =>
    cases k with
    | zero => simp [joinL]
    | succ k =>
      rw [List.take_succ_cons]
      cases r with
      | nil => simp [joinL]
      | cons b r =>
        cases k with
        | zero => simp [joinL]
        | succ k =>
          have := ih (k + 1)
          rw [List.take_succ_cons] at this ⊢
          simp only [joinL, List.length_append, List.length_cons] at this ⊢
          omega

theorem joinL_take_succ (l : List (List UInt8)) (k : Nat) (h : k < l.length) : joinL (l.take (k + 1)) = (if k = 0 then [] else joinL (l.take k) ++ [44]) ++ l[k] := by
  rw [List.take_succ_eq_append_getElem h]
  by_cases hk : k = 0
  · subst hk; simp [joinL]
  · rw [if_neg hk, joinL_snoc _ _ (by intro e; have := congrArg List.length e; rw [List.length_take, List.length_nil] at this; omega)]; simp

theorem zipL_length (a : List ByteArray) (l : List (List UInt8)) (h : a.length = l.length) : (zipL a l).length = l.length := by
  induction a generalizing l with
  | nil => cases l with
    | nil => rfl
    | cons x r => simp at h
  | cons s r ih => cases l with
    | nil => simp at h
    | cons x t => simp only [zipL, List.length_cons] at h ⊢; rw [ih t (by omega)]

theorem zipL_get (a : List ByteArray) (l : List (List UInt8)) (k : Nat) (h1 : k < a.length) (h2 : k < l.length) (h3 : k < (zipL a l).length) : (zipL a l)[k] = a[k].data.toList ++ 58 :: l[k] := by
  induction a generalizing l k with
  | nil => simp at h1
  | cons s r ih => cases l with
    | nil => simp at h2
    | cons x t => cases k with
      | zero => rfl
      | succ k =>
        simp only [zipL, List.getElem_cons_succ]
        exact ih t k (by simpa using h1) (by simpa using h2) (by simpa [zipL] using h3)

end Go.Proofs.YtlinplghgamgbaaGreatDoor

/-
  Plain mathematics: a text ahead is gone over; up to a byte; texts with commas between, from the left.
-/
namespace Go.Proofs.YtlinplghgamgbaaGreatDoor
open Go.RowKit

theorem takeWhile_all {p : UInt8 → Bool} (a b : List UInt8) (h : ∀ c, c ∈ a → p c = true) (hb : ∀ c r, b = c :: r → p c = false) : (a ++ b).takeWhile p = a := by
  induction a with
  | nil => cases b with
    | nil => rfl
    | cons c r => simp [hb c r rfl]
  | cons x r ih =>
    rw [List.cons_append, List.takeWhile_cons, h x (List.mem_cons_self ..)]
    simp only [if_true]
    rw [ih (fun c hc => h c (List.mem_cons_of_mem _ hc))]

theorem dropWhile_all {p : UInt8 → Bool} (a b : List UInt8) (h : ∀ c, c ∈ a → p c = true) (hb : ∀ c r, b = c :: r → p c = false) : (a ++ b).dropWhile p = b := by
  induction a with
  | nil => cases b with
    | nil => rfl
    | cons c r => simp [hb c r rfl]
  | cons x r ih =>
    rw [List.cons_append, List.dropWhile_cons, h x (List.mem_cons_self ..)]
    simp only [if_true]
    exact ih (fun c hc => h c (List.mem_cons_of_mem _ hc))

/-- Up to a byte, which stays. -/
def untilP (c : UInt8) (s : List UInt8) : Option (List UInt8 × List UInt8) :=
  if s.contains c then some (s.takeWhile (· != c), s.dropWhile (· != c)) else none

/-- A text ahead is gone over. -/
def eatP (w s : List UInt8) : Option (List UInt8) := if w.isPrefixOf s then some (s.drop w.length) else none

theorem eatP_some {w s r : List UInt8} (h : eatP w s = some r) : s = w ++ r := by
  unfold eatP at h
  split at h
  · next hp =>
    cases h
    obtain ⟨t, rfl⟩ := List.isPrefixOf_iff_prefix.1 hp
    simp
  · cases h

theorem eatP_append (w r : List UInt8) : eatP w (w ++ r) = some r := by
  unfold eatP
  rw [if_pos (List.isPrefixOf_iff_prefix.2 ⟨r, rfl⟩)]
  simp

theorem eatP_one_cons (c : UInt8) (r : List UInt8) : eatP [c] (c :: r) = some r := eatP_append [c] r

theorem eatP_one_ne (c d : UInt8) (r : List UInt8) (h : d ≠ c) : eatP [c] (d :: r) = none := by
  unfold eatP
  rw [if_neg]
  simp only [List.isPrefixOf, Bool.and_true, beq_iff_eq]
  exact fun e => h e.symm

theorem untilP_some {c : UInt8} {s w r : List UInt8} (h : untilP c s = some (w, r)) : ∃ r', r = c :: r' ∧ s = w ++ c :: r' ∧ ∀ x, x ∈ w → x ≠ c := by
  unfold untilP at h
  split at h
  · next hc =>
    cases h
    induction s with
    | nil => simp at hc
    | cons x s ih =>
      by_cases hx : x = c
      · subst hx; exact ⟨s, by simp⟩
      · have hc' : s.contains c = true := by
          have h1 : c = x ∨ c ∈ s := by simpa using hc
          rcases h1 with h1 | h1
          · exact absurd h1.symm hx
          · simpa using h1
        obtain ⟨r', h1, h2, h3⟩ := ih hc'
        have hb : (x != c) = true := by simpa using hx
        refine ⟨r', ?_, ?_, ?_⟩
        · rw [List.dropWhile_cons, hb]; simpa using h1
        · rw [List.takeWhile_cons, hb]; simpa using h2
        · intro y hy
          rw [List.takeWhile_cons, hb] at hy
          simp only [if_true] at hy
          rcases List.mem_cons.1 hy with rfl | hy
          · exact hx
          · exact h3 y hy
  · cases h

theorem untilP_append (c : UInt8) (w r : List UInt8) (h : ∀ x, x ∈ w → x ≠ c) : untilP c (w ++ c :: r) = some (w, c :: r) := by
  unfold untilP
  rw [if_pos (by simp)]
  have h1 : ∀ x, x ∈ w → (x != c) = true := fun x hx => by simpa using h x hx
  have h2 : ∀ x y, (c :: r) = x :: y → (x != c) = false := by intro x y e; cases e; simp
  rw [takeWhile_all w (c :: r) h1 h2, dropWhile_all w (c :: r) h1 h2]

/-- What follows of texts with commas, the first with none ahead if it is the first. -/
def tailL (first : Bool) : List (List UInt8) → List UInt8
  | [] => []
  | x :: r => (if first = true then x else 44 :: x) ++ tailL false r

theorem tailL_cons_false (x : List UInt8) (r : List (List UInt8)) : tailL false (x :: r) = 44 :: joinL (x :: r) := by
  induction r generalizing x with
  | nil => simp [tailL, joinL]
  | cons y r ih => rw [tailL, ih]; simp [joinL]

theorem tailL_true (l : List (List UInt8)) : tailL true l = joinL l := by
  cases l with
  | nil => rfl
  | cons x r =>
    cases r with
    | nil => simp [tailL, joinL]
    | cons y r => rw [tailL, tailL_cons_false]; simp [joinL]

theorem nameB_bytes {s : ByteArray} (h : nameB s = true) : ∀ c, c ∈ s.data.toList → nmByte c = true := by
  simp only [nameB, Bool.and_eq_true] at h
  exact List.all_eq_true.1 h.2

theorem nm_ne {c : UInt8} (h : nmByte c = true) : c ≠ 58 ∧ c ≠ 125 ∧ c ≠ 44 := by
  refine ⟨?_, ?_, ?_⟩ <;> (rintro rfl; exact absurd h (by decide))

theorem riseB_name {l : List ByteArray} (h : riseB l = true) : ∀ s, s ∈ l → nameB s = true := by
  intro s hs
  obtain ⟨i, hi, rfl⟩ := List.getElem_of_mem hs
  unfold riseB riseTo at h
  have := List.all_eq_true.1 h i (List.mem_range.2 hi)
  simp only [riseAt, Bool.and_eq_true] at this
  have h2 := this.1
  rwa [List.getD_eq_getElem?_getD, List.getElem?_eq_getElem hi] at h2

theorem untilP_at (c : UInt8) (l : List UInt8) (k : Nat) (h : ∀ x, x ∈ l.take k → x ≠ c) (he : l.drop k = c :: l.drop (k + 1)) : untilP c l = some (l.take k, l.drop k) := by
  have e : l = l.take k ++ c :: l.drop (k + 1) := by rw [← he]; simp
  conv => lhs; rw [e]
  rw [untilP_append c _ _ h, he]

theorem untilP_never (c : UInt8) (l : List UInt8) (h : ∀ x, x ∈ l → x ≠ c) : untilP c l = none := by
  unfold untilP
  rw [if_neg]
  intro hc
  have : c ∈ l := by simpa using hc
  exact h c this rfl

theorem extract_toList (s : ByteArray) (i k : Nat) : (s.extract i (i + k)).toList = (s.data.toList.drop i).take k := by
  rw [ByteArray.toList_eq]
  have : (s.extract i (i + k)).data.toList = (s.data.toList.drop i).take k := by
    simp [ByteArray.data_extract, List.extract_eq_take_drop]
  exact this

theorem eatP_yes (s : ByteArray) (i : Nat) (w : ByteArray) (he : (s.extract i (i + w.size)).toList = w.toList) : eatP w.data.toList (s.data.toList.drop i) = some (s.data.toList.drop (i + w.size)) := by
  rw [extract_toList s i w.size, ByteArray.toList_eq] at he
  unfold eatP
  have hp : w.data.toList <+: s.data.toList.drop i := by rw [← he]; exact List.take_prefix _ _
  rw [if_pos (List.isPrefixOf_iff_prefix.2 hp), List.drop_drop]
  simp

theorem eatP_no (s : ByteArray) (i : Nat) (w : ByteArray) (hi : i ≤ s.size) (h : ¬ (i + w.size ≤ s.size ∧ (s.extract i (i + w.size)).toList = w.toList)) : eatP w.data.toList (s.data.toList.drop i) = none := by
  unfold eatP
  rw [if_neg]
  intro hp
  obtain ⟨t, ht⟩ := List.isPrefixOf_iff_prefix.1 hp
  apply h
  have hl := congrArg List.length ht
  simp at hl
  refine ⟨by omega, ?_⟩
  rw [extract_toList s i w.size, ← ht, ByteArray.toList_eq]
  have : w.size = w.data.toList.length := by simp
  rw [this, List.take_left]

theorem extract_bs (s : ByteArray) (i k : Nat) : s.extract i (i + k) = bs ((s.data.toList.drop i).take k) := by
  have := extract_toList s i k
  rw [ByteArray.toList_eq] at this
  rw [← this, bs_of]

end Go.Proofs.YtlinplghgamgbaaGreatDoor

/-
  Plain mathematics of schemas: a schema of depth at most n, its size, its parts, when it is ok. No program stands behind this text.
-/
namespace Go.Proofs.YtlinplghgamgbaaGreatDoor
open Go.RowKit

/-- One node of a schema, its kids of whatever make. -/
structure Kd (α : Type) where
  sort : Int
  names : List ByteArray
  kids : List α

/-- Schemas of at most n levels. -/
def K : Nat → Type
  | 0 => Empty
  | n + 1 => Kd (K n)

def cntK : (n : Nat) → K n → Nat
  | 0, _ => 0
  | n + 1, t => 1 + sumL (fun k => cntK n k) (Kd.kids t)

/-- A node is ok, but for its kids. -/
def aloneKF (s : Int) (l : List ByteArray) (kl : Nat) : Bool :=
  if s = 1 then ((l.length : Int) == 0) && ((kl : Int) == 0)
  else if s = 2 then ((l.length : Int) == 0) && ((kl : Int) == 0)
  else if s = 3 then ((l.length : Int) == 0) && ((kl : Int) == 0)
  else if s = 4 then ((l.length : Int) == 0) && ((kl : Int) == 1)
  else if s = 5 then ((l.length : Int) == (kl : Int)) && riseB l
  else if s = 6 then ((l.length : Int) == 0) && ((kl : Int) == 1)
  else false

def aloneK {α : Type} (t : Kd α) : Bool := aloneKF t.sort t.names t.kids.length

/-- All nodes of a schema are ok by themselves and it is at most so deep. -/
def goodK : (n : Nat) → K n → Int → Bool
  | 0, _, _ => false
  | n + 1, t, d => decide (d ≤ 6) && aloneK (show Kd (K n) from t) && (Kd.kids t).all (fun k => goodK n k (d + 1))

/-- A schema is ok. -/
def okK (n : Nat) (t : K n) : Bool := goodK n t 1 && decide (cntK n t ≤ 40)

theorem cntK_pos : ∀ (n : Nat) (t : K n) (d : Int), goodK n t d = true → 1 ≤ cntK n t := by
  intro n t d h
  cases n with
  | zero => simp [goodK] at h
  | succ n => simp only [cntK]; omega

/-- What l2Parts answers. -/
def partsK (n : Nat) (t : K n) (d : Int) : Int := if goodK n t d = true ∧ cntK n t ≤ 40 then (cntK n t : Int) else -1

theorem partsK_no (n : Nat) (t : K (n + 1)) (d : Int) (h : (decide (d ≤ 6) && aloneK (show Kd (K n) from t)) = false) : partsK (n + 1) t d = -1 := by
  unfold partsK; rw [if_neg]; rintro ⟨h1, -⟩; simp only [goodK, h, Bool.false_and] at h1; cases h1

theorem partsK_kid (n : Nat) (t : K (n + 1)) (d : Int) (k : Nat) (hk : k < (Kd.kids t).length) (h : partsK n (Kd.kids t)[k] (d + 1) < 0) : partsK (n + 1) t d = -1 := by
  unfold partsK; rw [if_neg]
  rintro ⟨h1, h2⟩
  simp only [goodK, Bool.and_eq_true, List.all_eq_true] at h1
  have hg := h1.2 _ (List.getElem_mem hk)
  have hc := sumL_mono (fun k => cntK n k) (Kd.kids t) _ (List.getElem_mem hk)
  simp only [cntK] at h2
  unfold partsK at h
  rw [if_pos ⟨hg, by omega⟩] at h
  omega

theorem partsK_many (n : Nat) (t : K (n + 1)) (d : Int) (k : Nat) (h : 40 < 1 + sumL (fun k => cntK n k) ((Kd.kids t).take k)) : partsK (n + 1) t d = -1 := by
  unfold partsK; rw [if_neg]
  rintro ⟨-, h2⟩
  have := sumL_append (fun k => cntK n k) ((Kd.kids t).take k) ((Kd.kids t).drop k)
  rw [List.take_append_drop] at this
  simp only [cntK] at h2
  omega

theorem partsK_yes (n : Nat) (t : K (n + 1)) (d : Int) (h : (decide (d ≤ 6) && aloneK (show Kd (K n) from t)) = true) (hall : (Kd.kids t).all (fun k => goodK n k (d + 1)) = true) (hs : 1 + sumL (fun k => cntK n k) (Kd.kids t) ≤ 40) :
    partsK (n + 1) t d = 1 + (sumL (fun k => cntK n k) (Kd.kids t) : Int) := by
  unfold partsK; rw [if_pos]
  · simp only [cntK]; omega
  · exact ⟨by simp only [goodK, h, hall, Bool.and_self], by simp only [cntK]; omega⟩

theorem partsK_get (n : Nat) (t : K n) (d : Int) (h : 0 ≤ partsK n t d) : partsK n t d = cntK n t ∧ goodK n t d = true ∧ cntK n t ≤ 40 := by
  unfold partsK at h ⊢
  by_cases hc : goodK n t d = true ∧ cntK n t ≤ 40
  · rw [if_pos hc]; exact ⟨rfl, hc⟩
  · rw [if_neg hc] at h; omega

theorem partsK_le (n : Nat) (t : K n) (d : Int) : -1 ≤ partsK n t d ∧ partsK n t d ≤ 40 := by
  unfold partsK; split <;> omega

theorem okK_eq (n : Nat) (t : K n) : decide (0 < partsK n t 1) = okK n t := by
  unfold partsK okK
  by_cases hc : goodK n t 1 = true ∧ cntK n t ≤ 40
  · rw [if_pos hc, hc.1]
    have := cntK_pos n t 1 hc.1
    simp [hc.2]; omega
  · rw [if_neg hc]
    cases hg : goodK n t 1 with
    | false => simp
    | true => simp [hg] at hc; simp; omega

theorem all_take_kidK {α : Type} {p : α → Bool} {l : List α} (k : Nat) (h : k < l.length) (ht : (l.take k).all p = true) (hf : p l[k] = true) : (l.take (k + 1)).all p = true := by
  rw [List.take_succ_eq_append_getElem h, List.all_append, ht]; simpa using hf

end Go.Proofs.YtlinplghgamgbaaGreatDoor

/-
  Plain mathematics: the text of a schema, and how long it is.
-/
namespace Go.Proofs.YtlinplghgamgbaaGreatDoor
open Go.RowKit

/-- What the first of a list gives. -/
def headL {α : Type} (f : α → List UInt8) : List α → List UInt8
  | [] => []
  | k :: _ => f k

/-- The text of a schema. -/
def txtK : (n : Nat) → K n → List UInt8
  | 0, _ => []
  | n + 1, t =>
    if Kd.sort t = 1 then [110, 117, 109]
    else if Kd.sort t = 2 then [116, 101, 120, 116]
    else if Kd.sort t = 3 then [102, 108, 97, 103]
    else if Kd.sort t = 4 then 91 :: headL (txtK n) (Kd.kids t) ++ [93]
    else if Kd.sort t = 6 then 63 :: headL (txtK n) (Kd.kids t)
    else 123 :: joinL (zipL (Kd.names t) ((Kd.kids t).map (txtK n))) ++ [125]

theorem txtK_len : ∀ (n : Nat) (t : K n) (d : Int), goodK n t d = true → (txtK n t).length + 10 ≤ 24 * cntK n t := by
  intro n
  induction n with
  | zero => intro t d h; simp [goodK] at h
  | succ n ih =>
    intro t d h
    simp only [goodK, Bool.and_eq_true] at h
    have ha : aloneKF (Kd.sort t) (Kd.names t) (Kd.kids t).length = true := h.1.2
    have hk := List.all_eq_true.1 h.2
    have hkids : lenL ((Kd.kids t).map (txtK n)) ≤ 24 * sumL (fun x => cntK n x) (Kd.kids t) := by
      unfold lenL
      rw [sumL_map, ← sumL_mul]
      exact sumL_le _ _ _ fun x hx => ih x (d + 1) (hk x hx)
    have hc : cntK (n + 1) t = 1 + sumL (fun x => cntK n x) (Kd.kids t) := rfl
    rw [hc]
    have hhead : (headL (txtK n) (Kd.kids t)).length ≤ 24 * sumL (fun x => cntK n x) (Kd.kids t) := by
      cases hkk : Kd.kids t with
      | nil => simp [headL]
      | cons k r =>
        have h1 := ih k (d + 1) (hk k (by rw [hkk]; exact List.mem_cons_self ..))
        simp only [headL, sumL]
        omega
    unfold aloneKF at ha
    simp only [txtK]
    by_cases h1 : Kd.sort t = 1
    · rw [if_pos h1]; simp; omega
    rw [if_neg h1] at ha ⊢
    by_cases h2 : Kd.sort t = 2
    · rw [if_pos h2]; simp; omega
    rw [if_neg h2] at ha ⊢
    by_cases h3 : Kd.sort t = 3
    · rw [if_pos h3]; simp; omega
    rw [if_neg h3] at ha ⊢
    by_cases h4 : Kd.sort t = 4
    · rw [if_pos h4]; simp only [List.length_append, List.length_cons, List.length_nil]; omega
    rw [if_neg h4] at ha ⊢
    by_cases h6 : Kd.sort t = 6
    · rw [if_pos h6]; simp only [List.length_cons]; omega
    rw [if_neg h6]
    by_cases h5 : Kd.sort t = 5
    · rw [if_pos h5] at ha
      simp only [Bool.and_eq_true] at ha
      have := zipL_len (Kd.names t) ((Kd.kids t).map (txtK n)) (riseB_names _ ha.2)
      simp only [List.length_append, List.length_cons, List.length_nil]
      omega
    · rw [if_neg h5, if_neg h6] at ha; cases ha

theorem okK_get {n : Nat} {t : K n} (h : okK n t = true) : goodK n t 1 = true ∧ cntK n t ≤ 40 := by
  simpa only [okK, Bool.and_eq_true, decide_eq_true_eq] using h

theorem str_retK {a b : ByteArray} (h : a = b) : Ending.returned (.string a) = .returned (.string b) := by rw [h]

/-- What is written so far. -/
def soFarK (parts : List (List UInt8)) (k : Nat) : ByteArray := bs (joinL (parts.take k))

theorem soFarK_step (parts : List (List UInt8)) (k : Nat) (h : k < parts.length) (hk : ¬ k = 0) : soFarK parts (k + 1) = soFarK parts k ++ bs [44] ++ bs parts[k] := by
  unfold soFarK; rw [joinL_take_succ _ _ h, if_neg hk, bs_append, bs_append]
theorem soFarK_first (parts : List (List UInt8)) (h : 0 < parts.length) : soFarK parts (0 + 1) = bs [] ++ bs parts[0] := by
  unfold soFarK; rw [joinL_take_succ _ _ h, if_pos rfl, bs_append]

end Go.Proofs.YtlinplghgamgbaaGreatDoor

/-
  Plain mathematics: a schema of a text, as a function; what it reads has that text, and what is ok is read from its text.
-/
namespace Go.Proofs.YtlinplghgamgbaaGreatDoor
open Go.RowKit

/-- The parts of a form. -/
def formQ {α : Type} (f : List UInt8 → Option (α × List UInt8)) : Nat → List ByteArray → List α → List UInt8 → Option (List ByteArray × List α × List UInt8)
  | 0, _, _, _ => none
  | k + 1, ns, acc, s =>
    match eatP [125] s with
    | some r => some (ns, acc, r)
    | none =>
      match (if ns.length = 0 then some s else eatP [44] s) with
      | none => none
      | some s1 =>
        match untilP 58 s1 with
        | none => none
        | some (w, s2) =>
          match f (s2.drop 1) with
          | none => none
          | some (t, r) => formQ f k (ns ++ [bs w]) (acc ++ [t]) r

/-- What stands within a list or a maybe, with what must follow. -/
def oneQ {α : Type} (f : List UInt8 → Option (α × List UInt8)) (close : List UInt8) (s : List UInt8) : Option (α × List UInt8) :=
  match f s with
  | none => none
  | some (k, r) =>
    match eatP close r with
    | none => none
    | some r' => some (k, r')

/-- A schema of a text. -/
def parseK : (n : Nat) → List UInt8 → Option (K n × List UInt8)
  | 0, _ => none
  | n + 1, s =>
    match eatP [110, 117, 109] s with
    | some r => some ((⟨1, [], []⟩ : Kd (K n)), r)
    | none =>
    match eatP [116, 101, 120, 116] s with
    | some r => some ((⟨2, [], []⟩ : Kd (K n)), r)
    | none =>
    match eatP [102, 108, 97, 103] s with
    | some r => some ((⟨3, [], []⟩ : Kd (K n)), r)
    | none =>
    match eatP [91] s with
    | some r =>
      match oneQ (parseK n) [93] r with
      | none => none
      | some (k, r') => some ((⟨4, [], [k]⟩ : Kd (K n)), r')
    | none =>
    match eatP [63] s with
    | some r =>
      match oneQ (parseK n) [] r with
      | none => none
      | some (k, r') => some ((⟨6, [], [k]⟩ : Kd (K n)), r')
    | none =>
    match eatP [123] s with
    | some r =>
      match formQ (parseK n) (r.length + 1) [] [] r with
      | none => none
      | some (ns, ks, r') => some ((⟨5, ns, ks⟩ : Kd (K n)), r')
    | none => none

theorem eatP_ne (c : UInt8) (w : List UInt8) (d : UInt8) (r : List UInt8) (h : d ≠ c) : eatP (c :: w) (d :: r) = none := by
  unfold eatP
  rw [if_neg]
  simp only [List.isPrefixOf, Bool.and_eq_true, beq_iff_eq, not_and]
  exact fun e => absurd e.symm h

theorem eatP_nil (s : List UInt8) : eatP [] s = some s := by simp [eatP]

theorem formQ_sound {α : Type} (f : List UInt8 → Option (α × List UInt8)) (txt : α → List UInt8) (hf : ∀ s t r, f s = some (t, r) → s = txt t ++ r)
    (fuel : Nat) (ns : List ByteArray) (acc : List α) (s : List UInt8) (nl : List ByteArray) (l : List α) (r : List UInt8) (h : formQ f fuel ns acc s = some (nl, l, r)) :
    ∃ ms ks, nl = ns ++ ms ∧ l = acc ++ ks ∧ ms.length = ks.length ∧ s = tailL (decide (ns.length = 0)) (zipL ms (ks.map txt)) ++ 125 :: r := by
  induction fuel generalizing ns acc s with
  | zero => simp [formQ] at h
  | succ k ih =>
    rw [formQ] at h
    cases h1 : eatP [125] s with
    | some r1 =>
      rw [h1] at h
      simp only [Option.some.injEq, Prod.mk.injEq] at h
      obtain ⟨rfl, rfl, rfl⟩ := h
      exact ⟨[], [], by simp, by simp, rfl, by simpa [tailL, zipL] using eatP_some h1⟩
    | none =>
      rw [h1] at h
      simp only at h
      cases h2 : (if ns.length = 0 then some s else eatP [44] s) with
      | none => rw [h2] at h; cases h
      | some s1 =>
        rw [h2] at h
        simp only at h
        cases hu : untilP 58 s1 with
        | none => rw [hu] at h; cases h
        | some x =>
        obtain ⟨w, s2⟩ := x
        rw [hu] at h
        simp only at h
        obtain ⟨s3, u1, u2, u3⟩ := untilP_some hu
        subst u1
        simp only [List.drop_succ_cons, List.drop_zero] at h
        cases h3 : f s3 with
        | none => rw [h3] at h; cases h
        | some x =>
          obtain ⟨t, r2⟩ := x
          rw [h3] at h
          simp only at h
          have e1 := hf _ _ _ h3
          obtain ⟨ms, ks, m1, k1, ml, k2⟩ := ih _ _ _ h
          have hacc : decide ((ns ++ [bs w]).length = 0) = false := by simp
          rw [hacc] at k2
          refine ⟨bs w :: ms, t :: ks, by simpa using m1, by simpa using k1, by simp [ml], ?_⟩
          simp only [List.map_cons, zipL, tailL, List.append_assoc, bs_toList]
          by_cases h0 : ns.length = 0
          · rw [if_pos h0] at h2; cases h2
            simp only [h0, decide_true, if_true, List.append_assoc, List.cons_append]
            rw [← k2, ← e1]; exact u2
          · rw [if_neg h0] at h2
            simp only [h0, decide_false, Bool.false_eq_true, if_false, List.cons_append, List.append_assoc]
            rw [← k2, ← e1, ← u2]; exact eatP_some h2

theorem oneQ_some {α : Type} {f : List UInt8 → Option (α × List UInt8)} {c s : List UInt8} {k : α} {r : List UInt8} (h : oneQ f c s = some (k, r)) : ∃ r1, f s = some (k, r1) ∧ r1 = c ++ r := by
  unfold oneQ at h
  cases h1 : f s with
  | none => rw [h1] at h; cases h
  | some x =>
    obtain ⟨t, r1⟩ := x
    rw [h1] at h
    simp only at h
    cases h2 : eatP c r1 with
    | none => rw [h2] at h; cases h
    | some r2 => rw [h2] at h; cases h; exact ⟨r1, rfl, eatP_some h2⟩

theorem parseK_sound : ∀ (n : Nat) (s : List UInt8) (k : K n) (r : List UInt8), parseK n s = some (k, r) → s = txtK n k ++ r := by
  intro n
  induction n with
  | zero => intro s k r h; simp [parseK] at h
  | succ n ih =>
    intro s k r h
    rw [parseK] at h
    split at h
    · next r1 h1 => cases h; simpa [txtK] using eatP_some h1
    split at h
    · next r1 h1 => cases h; simpa [txtK] using eatP_some h1
    split at h
    · next r1 h1 => cases h; simpa [txtK] using eatP_some h1
    split at h
    · next r1 h1 =>
      cases h2 : oneQ (parseK n) [93] r1 with
      | none => rw [h2] at h; cases h
      | some x =>
        obtain ⟨k1, r2⟩ := x
        rw [h2] at h; cases h
        obtain ⟨r3, h3, e⟩ := oneQ_some h2
        have := ih _ _ _ h3
        rw [eatP_some h1, this, e]; simp [txtK, headL]
    split at h
    · next r1 h1 =>
      cases h2 : oneQ (parseK n) [] r1 with
      | none => rw [h2] at h; cases h
      | some x =>
        obtain ⟨k1, r2⟩ := x
        rw [h2] at h; cases h
        obtain ⟨r3, h3, e⟩ := oneQ_some h2
        have := ih _ _ _ h3
        rw [eatP_some h1, this, e]; simp [txtK, headL]
    split at h
    · next r1 h1 =>
      cases h2 : formQ (parseK n) (r1.length + 1) [] [] r1 with
      | none => rw [h2] at h; cases h
      | some x =>
        obtain ⟨ns, ks, r2⟩ := x
        rw [h2] at h; cases h
        obtain ⟨ms, ks', m1, k1, ml, k2⟩ := formQ_sound _ (txtK n) (fun s t r h => ih s t r h) _ _ _ _ _ _ _ h2
        simp only [List.nil_append] at m1 k1
        subst m1 k1
        simp only [List.length_nil, decide_true, tailL_true] at k2
        rw [eatP_some h1, k2]; simp [txtK]
    · cases h

theorem formQ_complete {α : Type} (f : List UInt8 → Option (α × List UInt8)) (txt : α → List UInt8) (ks : List α) (hf : ∀ k, k ∈ ks → ∀ post, f (txt k ++ post) = some (k, post))
    (ms : List ByteArray) (hms : ∀ s, s ∈ ms → nameB s = true) (hlen : ms.length = ks.length) (fuel : Nat) (ns : List ByteArray) (acc : List α) (post : List UInt8) (hfu : ks.length < fuel) :
    formQ f fuel ns acc (tailL (decide (ns.length = 0)) (zipL ms (ks.map txt)) ++ 125 :: post) = some (ns ++ ms, acc ++ ks, post) := by
  induction ks generalizing fuel ns acc ms with
  | nil =>
    have : ms = [] := List.eq_nil_of_length_eq_zero (by simpa using hlen)
    subst this
    cases fuel with
    | zero => simp at hfu
    | succ k => simp [formQ, tailL, zipL, eatP_one_cons]
  | cons x ks ih =>
    cases ms with
    | nil => simp at hlen
    | cons m ms =>
    cases fuel with
    | zero => omega
    | succ k =>
      have hm := hms m (List.mem_cons_self ..)
      have hmb := nameB_bytes hm
      have hsz : 1 ≤ m.size := by simp only [nameB, Bool.and_eq_true, decide_eq_true_eq] at hm; exact hm.1.1.1
      have step := hf x (List.mem_cons_self ..) (tailL false (zipL ms (ks.map txt)) ++ 125 :: post)
      have rest := ih (fun k hk => hf k (List.mem_cons_of_mem _ hk)) ms (fun s hs => hms s (List.mem_cons_of_mem _ hs)) (by simpa using hlen) k (ns ++ [m]) (acc ++ [x]) (by simp at hfu; omega)
      have hacc : decide ((ns ++ [m]).length = 0) = false := by simp
      rw [hacc] at rest
      have hun := untilP_append 58 m.data.toList (txt x ++ (tailL false (zipL ms (ks.map txt)) ++ 125 :: post)) (fun c hc => (nm_ne (hmb c hc)).1)
      have hmne : ∃ c r, m.data.toList = c :: r := by
        cases hd : m.data.toList with
        | nil =>
          have h1 : m.data.toList.length = 0 := by rw [hd]; rfl
          have h2 : m.data.toList.length = m.size := by simp
          omega
        | cons c r => exact ⟨c, r, rfl⟩
      obtain ⟨c, r, e⟩ := hmne
      have hcn := nm_ne (hmb c (by rw [e]; exact List.mem_cons_self ..))
      simp only [List.map_cons, zipL, tailL, List.append_assoc]
      by_cases h0 : ns.length = 0
      · simp only [h0, decide_true, if_true, List.append_assoc, List.cons_append]
        rw [formQ]
        have hh1 : eatP [125] (m.data.toList ++ 58 :: (txt x ++ (tailL false (zipL ms (ks.map txt)) ++ 125 :: post))) = none := by rw [e, List.cons_append]; exact eatP_one_ne _ _ _ hcn.2.1
        rw [hh1]
        simp only [h0, if_true]
        rw [hun]
        simp only [List.drop_succ_cons, List.drop_zero]
        rw [step]
        simp only [bs_of]
        rw [rest]
        simp
      · simp only [h0, decide_false, if_false, Bool.false_eq_true, List.append_assoc, List.cons_append]
        rw [formQ, eatP_one_ne _ _ _ (by decide)]
        simp only [h0, if_false, eatP_one_cons]
        rw [hun]
        simp only [List.drop_succ_cons, List.drop_zero]
        rw [step]
        simp only [bs_of]
        rw [rest]
        simp

theorem tailL_count (l : List (List UInt8)) (h : ∀ x, x ∈ l → x ≠ []) : ∀ b, l.length ≤ (tailL b l).length := by
  induction l with
  | nil => intro b; simp
  | cons x r ih =>
    intro b
    have h1 := ih (fun y hy => h y (List.mem_cons_of_mem _ hy)) false
    have h2 : 1 ≤ x.length := by
      cases x with
      | nil => exact absurd rfl (h [] (List.mem_cons_self ..))
      | cons c y => simp
    simp only [tailL, List.length_append, List.length_cons]
    split
    · omega
    · simp only [List.length_cons]; omega

theorem zipL_ne (a : List ByteArray) (l : List (List UInt8)) : ∀ x, x ∈ zipL a l → x ≠ [] := by
  induction a generalizing l with
  | nil => intro x hx; simp [zipL] at hx
  | cons s r ih =>
    intro x hx
    cases l with
    | nil => simp [zipL] at hx
    | cons y t =>
      simp only [zipL] at hx
      rcases List.mem_cons.1 hx with rfl | hx
      · simp
      · exact ih t x hx

theorem parseK_complete : ∀ (n : Nat) (k : K n) (d : Int) (post : List UInt8), goodK n k d = true → parseK n (txtK n k ++ post) = some (k, post) := by
  intro n
  induction n with
  | zero => intro k d post h; simp [goodK] at h
  | succ n ih =>
    intro k d post h
    simp only [goodK, Bool.and_eq_true] at h
    have ha : aloneKF (Kd.sort k) (Kd.names k) (Kd.kids k).length = true := h.1.2
    have hk := List.all_eq_true.1 h.2
    obtain ⟨so, na, ki⟩ : Kd (K n) := k
    simp only at ha hk
    unfold aloneKF at ha
    have one : ∀ (close : List UInt8), (ki.length : Int) = 1 → ∃ x, ki = [x] ∧ ∀ post, oneQ (parseK n) close (txtK n x ++ (close ++ post)) = some (x, post) := by
      intro close hl
      match ki, hl, hk with
      | [x], _, hk =>
        refine ⟨x, rfl, fun post => ?_⟩
        unfold oneQ
        rw [ih x (d + 1) (close ++ post) (hk x (List.mem_cons_self ..))]
        simp only [eatP_append]
    by_cases h1 : so = 1
    · rw [if_pos h1] at ha
      simp only [Bool.and_eq_true, beq_iff_eq] at ha
      have e2 : na = [] := List.eq_nil_of_length_eq_zero (by have := ha.1; omega)
      have e3 : ki = [] := List.eq_nil_of_length_eq_zero (by have := ha.2; omega)
      subst e2 e3 h1
      have e : txtK (n + 1) (⟨1, [], []⟩ : Kd (K n)) = [110, 117, 109] := by simp [txtK]
      rw [e, parseK, eatP_append]
    rw [if_neg h1] at ha
    by_cases h2 : so = 2
    · rw [if_pos h2] at ha
      simp only [Bool.and_eq_true, beq_iff_eq] at ha
      have e2 : na = [] := List.eq_nil_of_length_eq_zero (by have := ha.1; omega)
      have e3 : ki = [] := List.eq_nil_of_length_eq_zero (by have := ha.2; omega)
      subst e2 e3 h2
      have e : txtK (n + 1) (⟨2, [], []⟩ : Kd (K n)) = [116, 101, 120, 116] := by simp [txtK]
      rw [e, parseK, eatP_append]
      simp [eatP, List.isPrefixOf]
    rw [if_neg h2] at ha
    by_cases h3 : so = 3
    · rw [if_pos h3] at ha
      simp only [Bool.and_eq_true, beq_iff_eq] at ha
      have e2 : na = [] := List.eq_nil_of_length_eq_zero (by have := ha.1; omega)
      have e3 : ki = [] := List.eq_nil_of_length_eq_zero (by have := ha.2; omega)
      subst e2 e3 h3
      have e : txtK (n + 1) (⟨3, [], []⟩ : Kd (K n)) = [102, 108, 97, 103] := by simp [txtK]
      rw [e, parseK, eatP_append]
      simp [eatP, List.isPrefixOf]
    rw [if_neg h3] at ha
    by_cases h4 : so = 4
    · rw [if_pos h4] at ha
      simp only [Bool.and_eq_true, beq_iff_eq] at ha
      have e2 : na = [] := List.eq_nil_of_length_eq_zero (by have := ha.1; omega)
      obtain ⟨x, e3, hx⟩ := one [93] ha.2
      subst e2 e3 h4
      have e : txtK (n + 1) (⟨4, [], [x]⟩ : Kd (K n)) ++ post = 91 :: (txtK n x ++ ([93] ++ post)) := by simp [txtK, headL]
      rw [e, parseK, eatP_ne 110 _ 91 _ (by decide), eatP_ne 116 _ 91 _ (by decide), eatP_ne 102 _ 91 _ (by decide), eatP_one_cons]
      simp only [hx]
    rw [if_neg h4] at ha
    by_cases h5 : so = 5
    · rw [if_pos h5] at ha
      simp only [Bool.and_eq_true, beq_iff_eq] at ha
      have hl : na.length = ki.length := by have := ha.1; omega
      subst h5
      have e : txtK (n + 1) (⟨5, na, ki⟩ : Kd (K n)) ++ post = 123 :: (tailL true (zipL na (ki.map (txtK n))) ++ 125 :: post) := by simp [txtK, tailL_true]
      have hfu : ki.length < (tailL true (zipL na (ki.map (txtK n))) ++ 125 :: post).length + 1 := by
        have h1 := tailL_count (zipL na (ki.map (txtK n))) (zipL_ne _ _) true
        rw [zipL_length _ _ (by simpa using hl), List.length_map] at h1
        simp only [List.length_append, List.length_cons]; omega
      have hform := formQ_complete (parseK n) (txtK n) ki (fun k hk' post => ih k (d + 1) post (hk k hk')) na (riseB_name ha.2) hl _ [] [] post hfu
      simp only [List.length_nil, decide_true, List.nil_append] at hform
      rw [e, parseK, eatP_ne 110 _ 123 _ (by decide), eatP_ne 116 _ 123 _ (by decide), eatP_ne 102 _ 123 _ (by decide), eatP_ne 91 _ 123 _ (by decide), eatP_ne 63 _ 123 _ (by decide), eatP_one_cons]
      simp only [hform]
    rw [if_neg h5] at ha
    by_cases h6 : so = 6
    · rw [if_pos h6] at ha
      simp only [Bool.and_eq_true, beq_iff_eq] at ha
      have e2 : na = [] := List.eq_nil_of_length_eq_zero (by have := ha.1; omega)
      obtain ⟨x, e3, hx⟩ := one [] ha.2
      subst e2 e3 h6
      have e : txtK (n + 1) (⟨6, [], [x]⟩ : Kd (K n)) ++ post = 63 :: (txtK n x ++ ([] ++ post)) := by simp [txtK, headL]
      rw [e, parseK, eatP_ne 110 _ 63 _ (by decide), eatP_ne 116 _ 63 _ (by decide), eatP_ne 102 _ 63 _ (by decide), eatP_ne 91 _ 63 _ (by decide), eatP_one_cons]
      simp only [hx]
    · rw [if_neg h6] at ha; cases ha

/-- What a text is read as. -/
def readK (n : Nat) (s : ByteArray) : Option (K n) :=
  if s.size ≤ 800 then
    match parseK n s.data.toList with
    | some (k, []) => if okK n k = true then some k else none
    | _ => none
  else none

theorem readK_some {n : Nat} {s : ByteArray} {k : K n} (h : readK n s = some k) : s.size ≤ 800 ∧ okK n k = true ∧ txtK n k = s.data.toList := by
  unfold readK at h
  split at h
  · next h8 =>
    split at h
    · next k' hp =>
      split at h
      · next hok =>
        cases h
        exact ⟨h8, hok, by have := parseK_sound n _ _ _ hp; simpa using this.symm⟩
      · cases h
    · cases h
  · cases h

theorem readK_of {n : Nat} {s : ByteArray} {k : K n} (h8 : s.size ≤ 800) (hok : okK n k = true) (ht : txtK n k = s.data.toList) : readK n s = some k := by
  unfold readK
  rw [if_pos h8, ← ht]
  have := parseK_complete n k 1 [] (okK_get hok).1
  rw [List.append_nil] at this
  rw [this]
  simp only [hok, if_true]

end Go.Proofs.YtlinplghgamgbaaGreatDoor

/-
  Worlds that differ in one block and in new ones.
-/
namespace Go.Proofs.YtlinplghgamgbaaGreatDoor
open Go.RowKit

/-- What was there is as it was, but for block bb. -/
structure Near (bb : Nat) (w w' : World) : Prop where
  os : w'.os = w.os
  tape : w'.tape = w.tape
  output : w'.output = w.output
  size : w.heap.size ≤ w'.heap.size
  block : ∀ k, k < w.heap.size → k ≠ bb → w'.heap[k]? = w.heap[k]?

theorem Near.refl (bb : Nat) (w : World) : Near bb w w := ⟨rfl, rfl, rfl, Nat.le_refl _, fun _ _ _ => rfl⟩
theorem Near.trans {bb : Nat} {a b c : World} (h : Near bb a b) (k : Near bb b c) : Near bb a c :=
  ⟨k.os.trans h.os, k.tape.trans h.tape, k.output.trans h.output, Nat.le_trans h.size k.size, fun i hi hne => (k.block i (Nat.lt_of_lt_of_le hi h.size) hne).trans (h.block i hi hne)⟩
theorem Near.of_below {bb : Nat} {a b : World} (h : Below a.heap.size a b) : Near bb a b := ⟨h.os, h.tape, h.output, h.size, fun k hk _ => h.block k hk⟩
theorem Near.set (bb o : Nat) (w : World) (v : Value) : Near bb w (w.setCell ⟨bb, o, none⟩ v) := ⟨rfl, rfl, rfl, by simp, fun k _ hne => Below.heap_setCell _ _ _ _ hne⟩
theorem Near.alloc (bb : Nat) (w : World) (o : Obj) : Near bb w (w.alloc o) := .of_below ((Below.refl _ _).alloc (Nat.le_refl _) o)
theorem Near.below {bb B : Nat} {a b : World} (h : Near bb a b) (h1 : B ≤ bb) (h2 : B ≤ a.heap.size) : Below B a b := ⟨h.os, h.tape, h.output, h.size, fun k hk => h.block k (by omega) (by omega)⟩

/-- The block of a counter. -/
def Prt (w : World) (pb : Nat) (p : Int) : Prop := w.heap[pb]? = some (.cells #[.int .i64 p] 3 (0, 0))

theorem Prt.cell {w : World} {pb : Nat} {p : Int} (h : Prt w pb p) : w.cell? ⟨pb, 0, none⟩ = some (.int .i64 p) := by
  unfold Prt at h; simp [World.cell?, h]
theorem Prt.free {w : World} {pb : Nat} {p : Int} (h : Prt w pb p) : w.frozen? ⟨pb, 0, none⟩ = false := by
  unfold Prt at h; simp [World.frozen?, h]
theorem Prt.lt {w : World} {pb : Nat} {p : Int} (h : Prt w pb p) : pb < w.heap.size := by
  unfold Prt at h
  exact (Array.getElem?_eq_some_iff.1 h).1
theorem Prt.set {w : World} {pb : Nat} {p : Int} (h : Prt w pb p) (q : Int) : Prt (w.setCell ⟨pb, 0, none⟩ (.int .i64 q)) pb q := by
  unfold Prt at h ⊢; simp [World.setCell, Array.getElem?_modify, h]
theorem Prt.new (w : World) (p : Int) : Prt (w.alloc (.cells #[.int .i64 p] 3)) w.heap.size p := by
  show (w.heap.push _)[w.heap.size]? = _; simp
theorem Prt.keep {w w' : World} {pb : Nat} {p : Int} (h : Prt w pb p) (hb : Below w.heap.size w w') : Prt w' pb p := (hb.block pb h.lt).trans h

theorem Near.same {pb : Nat} {S : Nat → Prop} {w w' : World} (h : Near pb w w') (hS : ∀ b, S b → b < w.heap.size ∧ b ≠ pb) : Same S w w' := fun b hb => h.block b (hS b hb).1 (hS b hb).2
theorem Near.drew {pb : Nat} {w w' : World} (h : Near pb w w') : Near pb w w'.drew := ⟨h.os, h.tape, h.output, h.size, h.block⟩
theorem Near.cell {pb b o : Nat} {w w' : World} {v : Value} (h : Near pb w w') (hc : w.cell? ⟨b, o, none⟩ = some v) (hne : b ≠ pb) : w'.cell? ⟨b, o, none⟩ = some v := by
  have hlt : b < w.heap.size := Classical.byContradiction fun hge => by
    have : w.heap[b]? = none := Array.getElem?_eq_none (by omega)
    simp [World.cell?, this] at hc
  exact (World.cell?_of_block (w := w) (w' := w') (a := ⟨b, o, none⟩) (h.block b hlt hne)).trans hc

theorem cell_lt0 {w : World} {b o : Nat} {v : Value} (h : w.cell? ⟨b, o, none⟩ = some v) : b < w.heap.size :=
  Classical.byContradiction fun hge => by
    have : w.heap[b]? = none := Array.getElem?_eq_none (by omega)
    simp [World.cell?, this] at h

/-- What a closure over a counter, a bound and a function has at hand. -/
structure Cap (w : World) (pb mb ab : Nat) (p M : Int) (F : Nat) : Prop where
  parts : Prt w pb p
  max : w.cell? ⟨mb, 0, none⟩ = some (.int .i64 M)
  acc : w.cell? ⟨ab, 0, none⟩ = some (.func (.func F) #[] #[])
  nm : mb ≠ pb
  na : ab ≠ pb

theorem Cap.keep {w w' : World} {pb mb ab : Nat} {p q M : Int} {F : Nat} (h : Cap w pb mb ab p M F) (hn : Near pb w w') (hp : Prt w' pb q) : Cap w' pb mb ab q M F :=
  ⟨hp, hn.cell h.max h.nm, hn.cell h.acc h.na, h.nm, h.na⟩

end Go.Proofs.YtlinplghgamgbaaGreatDoor

/-
  Small facts on what a call returns.
-/
namespace Go.Proofs.YtlinplghgamgbaaGreatDoor
open Go.RowKit

theorem ret_int {k : IntKind} {a b : Int} (h : a = b) : Ending.returned (.int k a) = .returned (.int k b) := by rw [h]
theorem str_ret {a b : ByteArray} (h : a = b) : Ending.returned (.string a) = .returned (.string b) := by rw [h]

end Go.Proofs.YtlinplghgamgbaaGreatDoor

/-
  The program's own functions on names: what they answer.
-/
namespace Go.Proofs.YtlinplghgamgbaaGreatDoor
open Go.RowKit

theorem bool_ret {a b : Bool} (h : a = b) : Ending.returned (.bool a) = .returned (.bool b) := by rw [h]

def digB (n : Int) : Bool := decide (48 ≤ n ∧ n ≤ 57)

set_option maxHeartbeats 400000 in
theorem isDigit_any (x : Int) (w : World) (_h0 : 0 ≤ x) (_h1 : x ≤ 255) : Calls Tryz.prog 117 #[.int .u8 x] w fun e w' => e = .returned (.bool (digB x)) ∧ w' = w := by
  by_cases h : 48 ≤ x <;> by_cases h2 : x ≤ 57
  all_goals
    go_enter Tryz.func117, Tryz.ntmps117
    go_wp2
    go_ret
    exact ⟨bool_ret (by simp [digB, h, h2]; try omega), rfl⟩

theorem head_eq (s : ByteArray) (h : 0 < s.size) : s.data.toList.headD 0 = s[0] := by
  cases hx : s.data.toList with
  | nil => have := congrArg List.length hx; simp at this; simp [this] at h
  | cons a r => simp [ByteArray.getElem_eq_getElem_data, ← Array.getElem_toList, hx]

theorem nmByte_dig (c : UInt8) (h : nmByte c = true) : upByte c = !digB c.toNat := by
  unfold nmByte at h
  rw [decide_eq_true_eq] at h
  unfold upByte digB
  rcases h with h | h
  · rw [decide_eq_true h, decide_eq_false (by omega)]; rfl
  · rw [decide_eq_false (by omega), decide_eq_true h]; rfl

/-- A name, as the program asks it: no digit ahead. -/
theorem nameB_eq (s : ByteArray) (h1 : 1 ≤ s.size) (h2 : s.size ≤ 8) : nameB s = (!digB (s[0].toNat : Int) && s.data.toList.all nmByte) := by
  unfold nameB
  rw [head_eq s (by omega)]
  cases hall : s.data.toList.all nmByte with
  | false => simp
  | true =>
    have h0 : nmByte s[0] = true := List.all_eq_true.1 hall _ (by simp [ByteArray.getElem_eq_getElem_data])
    rw [nmByte_dig _ h0]; simp [h1, h2]

set_option maxHeartbeats 400000 in
theorem isName_any (s : ByteArray) (w : World) (hs : s.size ≤ maxLen) : Calls Tryz.prog 99 #[.string s] w fun e w' => e = .returned (.bool (nameB s)) ∧ w' = w := by
  unfold maxLen at hs
  by_cases hl : 1 ≤ s.size ∧ s.size ≤ 8
  · obtain ⟨hl1, hl2⟩ := hl
    have HN : Hid (nameB s = (!digB (s[0].toNat : Int) && s.data.toList.all nmByte)) := nameB_eq s hl1 hl2
    have hu0 : ∀ k (h : k < s.size), (s[k].toNat : Int) ≤ 255 := fun k h => by have := s[k].toNat_lt; omega
    have hu00 := hu0 0 (by omega)
    cases hd : digB (s[0].toNat : Int) with
    | true =>
      have HF : Hid (nameB s = false) := by show _ = _; rw [HN.out, hd]; simp
      clear hu0
      go_enter Tryz.func99, Tryz.ntmps99
      go_wp2_with fail
      refine (isDigit_any _ _ (by omega) hu00).mono ?_
      rintro e w' ⟨rfl, rfl⟩
      rw [hd]
      go_wp2_with fail
      go_ret
      exact ⟨bool_ret HF.out.symm, rfl⟩
    | false =>
      have HD := hidF hd
      have HU := hidF hu0
      clear hu0 hd
      go_enter Tryz.func99, Tryz.ntmps99
      go_wp2_with fail
      refine (isDigit_any _ _ (by omega) hu00).mono ?_
      rintro e w' ⟨rfl, rfl⟩
      rw [HD.out]
      go_wp2_with fail
      go_loop [19] (fun i => ∃ k : Nat, k ≤ s.size ∧ i = .int .i64 k ∧ (s.data.toList.take k).all nmByte = true) (fun i => s.size - (intOf i).toNat)
      case atStart => exact ⟨0, Nat.zero_le _, rfl, by simp⟩
      case round =>
        obtain ⟨k, hk, rfl, hall⟩ := hrel
        have HA := hidF hall
        clear hall
        by_cases hlt : k < s.size
        · have huk := HU.out k hlt
          have HDig : Hid (digB (s[k].toNat : Int) = decide (48 ≤ (s[k].toNat : Int) ∧ (s[k].toNat : Int) ≤ 57)) := rfl
          cases hb : nmByte s[k] with
          | true =>
            have HB : Hid (nmByte s[k] = true) := hb
            unfold nmByte at hb
            rw [decide_eq_true_eq] at hb
            rcases hb with ⟨h1, h2⟩ | ⟨h1, h2⟩
            · have hdk : digB (s[k].toNat : Int) = false := by rw [HDig.out]; exact decide_eq_false (by omega)
              go_wp2_with (go_at_call 117; refine (isDigit_any _ _ (by omega) huk).mono ?_; rintro e w' ⟨rfl, rfl⟩; rw [hdk])
              go_round
              case rel => exact ⟨k + 1, by omega, by go_num, all_take_succ k hlt HA.out HB.out⟩
              case measure => simp [intOf]; omega
            · have hdk : digB (s[k].toNat : Int) = true := by rw [HDig.out]; exact decide_eq_true ⟨by omega, by omega⟩
              go_wp2_with (go_at_call 117; refine (isDigit_any _ _ (by omega) huk).mono ?_; rintro e w' ⟨rfl, rfl⟩; rw [hdk])
              go_round
              case rel => exact ⟨k + 1, by omega, by go_num, all_take_succ k hlt HA.out HB.out⟩
              case measure => simp [intOf]; omega
          | false =>
            have HF : Hid (nameB s = false) := by show _ = _; rw [nameB, all_false_at k hlt hb]; simp
            unfold nmByte at hb
            rw [decide_eq_false_iff_not] at hb
            have hdk : digB (s[k].toNat : Int) = false := by rw [HDig.out]; exact decide_eq_false (by omega)
            rcases (show (s[k].toNat : Int) < 97 ∨ 122 < (s[k].toNat : Int) by omega) with h1 | h1
            all_goals
              clear hb
              go_wp2_with (go_at_call 117; refine (isDigit_any _ _ (by omega) huk).mono ?_; rintro e w' ⟨rfl, rfl⟩; rw [hdk])
              go_ret
              exact ⟨bool_ret HF.out.symm, rfl⟩
        · have HF : Hid (nameB s = true) := by show _ = _; rw [HN.out, HD.out, all_take_all k (by omega) HA.out]; simp
          go_wp2_with fail
          go_ret
          exact ⟨bool_ret HF.out.symm, rfl⟩
  · have HF : Hid (nameB s = false) := by show _ = _; rw [nameB, decide_eq_false hl]; simp
    rcases (show s.size < 1 ∨ 8 < s.size by omega) with h1 | h1
    all_goals
      clear hl
      go_enter Tryz.func99, Tryz.ntmps99
      go_wp2_with fail
      go_ret
      exact ⟨bool_ret HF.out.symm, rfl⟩

end Go.Proofs.YtlinplghgamgbaaGreatDoor

/-
  The program's own functions on names and texts: what they answer.
-/
namespace Go.Proofs.YtlinplghgamgbaaGreatDoor
open Go.RowKit

set_option maxHeartbeats 400000 in
theorem isTreeNum_any (x : Int) (w : World) : Calls Tryz.prog 90 #[.int .i64 x] w fun e w' => e = .returned (.bool (decide (-999999999 ≤ x ∧ x ≤ 999999999))) ∧ w' = w := by
  by_cases h : -999999999 ≤ x <;> by_cases h2 : x ≤ 999999999
  all_goals
    go_enter Tryz.func90, Tryz.ntmps90
    go_wp2
    go_ret
    exact ⟨bool_ret (by simp [h, h2]; try omega), rfl⟩

set_option maxHeartbeats 400000 in
theorem isTreeText_any (s : ByteArray) (w : World) (hs : s.size ≤ maxLen) : Calls Tryz.prog 91 #[.string s] w fun e w' => e = .returned (.bool (textB s)) ∧ w' = w := by
  unfold maxLen at hs
  by_cases hl : s.size ≤ 60
  · go_enter Tryz.func91, Tryz.ntmps91
    go_wp2
    go_loop [9] (fun i => ∃ k : Nat, k ≤ s.size ∧ i = .int .i64 k ∧ (s.data.toList.take k).all okByte = true) (fun i => s.size - (intOf i).toNat)
    case atStart => exact ⟨0, Nat.zero_le _, rfl, by simp⟩
    case round =>
      obtain ⟨k, hk, rfl, hall⟩ := hrel
      have HA := hidF hall
      clear hall
      by_cases hlt : k < s.size
      · cases hb : okByte s[k] with
        | true =>
          have HB : Hid (okByte s[k] = true) := hb
          unfold okByte at hb
          rw [decide_eq_true_eq] at hb
          obtain ⟨h1, h2, h3⟩ := hb
          have h3' : ((s[k].toNat : Int) == 34) = false := by simpa using h3
          clear h3
          go_wp2
          go_round
          case rel => exact ⟨k + 1, by omega, by go_num, all_take_succ k hlt HA.out HB.out⟩
          case measure => simp [intOf]; omega
        | false =>
          have HF : Hid (textB s = false) := by show _ = _; rw [textB, all_false_at k hlt hb]; simp
          unfold okByte at hb
          rw [decide_eq_false_iff_not] at hb
          go_wp2
          all_goals first
            | (go_ret; exact ⟨bool_ret HF.out.symm, rfl⟩)
            | (exfalso; apply hb; simp_all)
      · have HF : Hid (textB s = true) := by show _ = _; rw [textB, all_take_all k (by omega) HA.out]; simp [hl]
        go_wp2
        go_ret
        exact ⟨bool_ret HF.out.symm, rfl⟩
  · go_enter Tryz.func91, Tryz.ntmps91
    go_wp2
    go_ret
    exact ⟨bool_ret (by simp [textB, hl]), rfl⟩

end Go.Proofs.YtlinplghgamgbaaGreatDoor

/-
  Nodes in memory whose rows have room for what they hold.
-/
namespace Go.Proofs.YtlinplghgamgbaaGreatDoor
open Go.RowKit

/-- A slice that is no longer than its row. -/
def CapOk (v : Value) : Prop := ∃ (a : Option Addr) (n c : Nat), v = .slice a n c ∧ n ≤ c

/-- Five cells hold a node, its memory in blocks of S, its rows with room. -/
def NodeIn (S : Nat → Prop) (w : World) : (n : Nat) → T n → Value → Value → Value → Value → Value → Prop
  | 0, _, _, _, _, _, _ => False
  | n + 1, t, c0, c1, c2, c3, c4 => c0 = .int .i64 (Nd.sort t) ∧ c1 = .int .i64 (Nd.num t) ∧ c2 = .string (Nd.text t) ∧ (Nd.text t).size ≤ maxLen ∧
      (Lit.int .i64 (Nd.sort t)).wf = true ∧ (Lit.int .i64 (Nd.num t)).wf = true ∧ StrsIn S w (Nd.names t) c3 ∧ RowIn S w (NodeIn S w n) (Nd.kids t) c4 ∧ CapOk c3 ∧ CapOk c4

theorem NodeIn.keep {S S' : Nat → Prop} {w w' : World} (hb : Same S w w') (hS : ∀ b, S b → S' b) : ∀ {n : Nat} {t : T n} {c0 c1 c2 c3 c4 : Value}, NodeIn S w n t c0 c1 c2 c3 c4 → NodeIn S' w' n t c0 c1 c2 c3 c4 := by
  intro n
  induction n with
  | zero => intro t c0 c1 c2 c3 c4 h; exact h.elim
  | succ n ih =>
    intro t c0 c1 c2 c3 c4 h
    obtain ⟨h0, h1, h2, hs, hw0, hw1, h3, h4, h5, h6⟩ := h
    exact ⟨h0, h1, h2, hs, hw0, hw1, h3.keep hb hS, h4.keep hb hS fun x _ _ _ _ _ _ hx => ih hx, h5, h6⟩

theorem NodeIn.tree {S : Nat → Prop} {w : World} : ∀ {n : Nat} {t : T n} {c0 c1 c2 c3 c4 : Value}, NodeIn S w n t c0 c1 c2 c3 c4 → TreeIn S w n t c0 c1 c2 c3 c4 := by
  intro n
  induction n with
  | zero => intro t c0 c1 c2 c3 c4 h; exact h.elim
  | succ n ih =>
    intro t c0 c1 c2 c3 c4 h
    obtain ⟨h0, h1, h2, hs, hw0, hw1, h3, h4, -, -⟩ := h
    exact ⟨h0, h1, h2, hs, hw0, hw1, h3, h4.keep (fun _ _ => rfl) (fun _ h => h) fun x _ _ _ _ _ _ hx => ih hx⟩

theorem NodeIn.shape {S : Nat → Prop} {w : World} {n : Nat} {t : T n} {c0 c1 c2 c3 c4 : Value} (h : NodeIn S w n t c0 c1 c2 c3 c4) :
    ∃ (s m : Int) (x : ByteArray) (a : Option Addr) (l c : Nat) (a' : Option Addr) (l' c' : Nat), c0 = .int .i64 s ∧ c1 = .int .i64 m ∧ c2 = .string x ∧ c3 = .slice a l c ∧ c4 = .slice a' l' c' := h.tree.shape

theorem RowIn.keepN {S S' : Nat → Prop} {w w' : World} {n : Nat} {l : List (T n)} {v : Value} (h : RowIn S w (NodeIn S w n) l v) (hb : Same S w w') (hS : ∀ b, S b → S' b) : RowIn S' w' (NodeIn S' w' n) l v :=
  h.keep hb hS fun _ _ _ _ _ _ _ hx => hx.keep hb hS

/-- Behind a call that made memory alone. -/
theorem NodeIn.step {S : Nat → Prop} {w w' : World} {n : Nat} {t : T n} {c0 c1 c2 c3 c4 : Value} (h : NodeIn S w n t c0 c1 c2 c3 c4) (hB : ∀ b, S b → b < w.heap.size) (hb : Below w.heap.size w w') :
    NodeIn S w' n t c0 c1 c2 c3 c4 ∧ ∀ b, S b → b < w'.heap.size :=
  ⟨h.keep (same_below hb hB) (fun _ h => h), fun b hb2 => Nat.lt_of_lt_of_le (hB b hb2) hb.size⟩

end Go.Proofs.YtlinplghgamgbaaGreatDoor

/-
  The program's own function on a form's names: areFormNames.
-/
namespace Go.Proofs.YtlinplghgamgbaaGreatDoor
open Go.RowKit

set_option maxHeartbeats 1000000 in
theorem areFormNames_any (S : Nat → Prop) (l : List ByteArray) (v : Value) (w : World) (hl : StrsIn S w l v) :
    Calls Tryz.prog 92 #[v] w fun e w' => e = .returned (.bool (riseB l)) ∧ w' = w := by
  obtain ⟨ao, cap, rfl, hlen, hs, hc⟩ := hl
  unfold maxLen at hlen
  go_enter Tryz.func92, Tryz.ntmps92
  go_wp2_with fail
  go_loop [7] (fun i => ∃ k : Nat, k ≤ l.length ∧ i = .int .i64 k ∧ riseTo l k = true) (fun i => l.length - (intOf i).toNat)
  case atStart => exact ⟨0, Nat.zero_le _, rfl, by simp [riseTo]⟩
  case round =>
    obtain ⟨k, hk, rfl, hall⟩ := hrel
    have HA : Hid (riseTo l k = true) := hall
    clear hall
    by_cases hlt : k < l.length
    · obtain ⟨b, off, rfl, hbB, hcell⟩ := hc (by intro h; rw [h] at hlt; simp at hlt)
      have f0 := hcell k hlt
      have hsk := hs l[k] (List.getElem_mem hlt)
      have hgk : l.getD k ByteArray.empty = l[k] := by simp [List.getD, hlt]
      cases hnm : nameB l[k] with
      | false =>
        have HF : Hid (riseB l = false) := riseTo_false l k hlt (by simp only [riseAt, hgk, hnm, Bool.false_and])
        have HC : Hid (∀ w, Calls Tryz.prog 99 #[.string l[k]] w fun e w' => e = .returned (.bool false) ∧ w' = w) := fun w => by rw [← hnm]; exact isName_any _ w hsk
        clear hc hs hcell hgk hnm
        generalize l[k] = s at *
        go_wp2_with (go_at_call 99; refine (HC.out _).mono ?_; rintro e w' ⟨rfl, rfl⟩)
        go_ret
        exact ⟨bool_ret HF.out.symm, rfl⟩
      | true =>
        have HC : Hid (∀ w, Calls Tryz.prog 99 #[.string l[k]] w fun e w' => e = .returned (.bool true) ∧ w' = w) := fun w => by rw [← hnm]; exact isName_any _ w hsk
        rcases Nat.eq_zero_or_pos k with rfl | hkp
        · have HR : Hid (riseTo l (0 + 1) = true) := by show _ = _; rw [riseTo_succ, HA.out, riseAt, hgk, hnm]; rfl
          clear hc hs hcell hgk hnm
          rw [Nat.add_zero] at f0
          generalize l[0] = s at *
          go_wp2_with (go_at_call 99; refine (HC.out _).mono ?_; rintro e w' ⟨rfl, rfl⟩)
          go_round
          case rel => exact ⟨0 + 1, by omega, by go_num, HR.out⟩
          case measure => simp [intOf]; omega
        · obtain ⟨j, rfl⟩ : ∃ j, k = j + 1 := ⟨k - 1, by omega⟩
          have f1 := hcell j (by omega)
          have hgj : l.getD j ByteArray.empty = l[j] := by simp [List.getD, show j < l.length by omega]
          cases hlt' : ltB l[j] l[j + 1] with
          | false =>
            have HF : Hid (riseB l = false) := riseTo_false l (j + 1) hlt (by simp only [riseAt, hgk, Nat.add_sub_cancel, hgj, hlt']; simp)
            unfold ltB at hlt'
            clear hc hs hcell hgk hgj hnm
            generalize l[j] = r at *
            generalize l[j + 1] = s at *
            go_wp2_with (go_at_call 99; refine (HC.out _).mono ?_; rintro e w' ⟨rfl, rfl⟩)
            go_ret
            exact ⟨bool_ret HF.out.symm, rfl⟩
          | true =>
            have HR : Hid (riseTo l (j + 1 + 1) = true) := by show _ = _; rw [riseTo_succ, HA.out, riseAt, hgk, hnm, Nat.add_sub_cancel, hgj, hlt']; simp
            unfold ltB at hlt'
            clear hc hs hcell hgk hgj hnm
            generalize l[j] = r at *
            generalize l[j + 1] = s at *
            go_wp2_with (go_at_call 99; refine (HC.out _).mono ?_; rintro e w' ⟨rfl, rfl⟩)
            go_round
            case rel => exact ⟨j + 1 + 1, by omega, by go_num, HR.out⟩
            case measure => simp [intOf]; omega
    · have HF : Hid (riseB l = true) := by show _ = _; rw [riseB, show l.length = k by omega]; exact HA.out
      clear hc hs
      go_wp2_with fail
      go_ret
      exact ⟨bool_ret HF.out.symm, rfl⟩

end Go.Proofs.YtlinplghgamgbaaGreatDoor

/-
  The program's own functions on one node: hasJustItsSort.
-/
namespace Go.Proofs.YtlinplghgamgbaaGreatDoor
open Go.RowKit

set_option maxRecDepth 100000 in
set_option maxHeartbeats 2000000 in
theorem just_1 (m : Int) (x : ByteArray) (l : List ByteArray) (ka : Option Addr) (kl kc : Nat) (w : World) (na : Option Addr) (nc : Nat) :
    Calls Tryz.prog 77 #[.agg #[.int .i64 1, .int .i64 m, .string x, .slice na l.length nc, .slice ka kl kc]] w fun e w' => e = .returned (.bool (decide (-999999999 ≤ m ∧ m ≤ 999999999) && x.toList.isEmpty && ((l.length : Int) == 0) && ((kl : Int) == 0))) ∧ Below w.heap.size w w' := by
  go_enter Tryz.func77, Tryz.ntmps77
  go_wp2_with (go_at_call 90; refine (isTreeNum_any _ _).mono ?_; rintro e w' ⟨rfl, rfl⟩)
  all_goals
    go_ret
    exact ⟨bool_ret (by simp_all), (Below.refl _ _).alloc (Nat.le_refl _) _⟩


set_option maxRecDepth 100000 in
set_option maxHeartbeats 2000000 in
theorem just_2 (m : Int) (x : ByteArray) (l : List ByteArray) (ka : Option Addr) (kl kc : Nat) (w : World) (na : Option Addr) (nc : Nat) (hx : x.size ≤ maxLen) :
    Calls Tryz.prog 77 #[.agg #[.int .i64 2, .int .i64 m, .string x, .slice na l.length nc, .slice ka kl kc]] w fun e w' => e = .returned (.bool ((m == 0) && textB x && ((l.length : Int) == 0) && ((kl : Int) == 0))) ∧ Below w.heap.size w w' := by
  go_enter Tryz.func77, Tryz.ntmps77
  go_wp2_with (go_at_call 91; refine (isTreeText_any _ _ hx).mono ?_; rintro e w' ⟨rfl, rfl⟩)
  all_goals
    go_ret
    exact ⟨bool_ret (by simp_all), (Below.refl _ _).alloc (Nat.le_refl _) _⟩


set_option maxRecDepth 100000 in
set_option maxHeartbeats 2000000 in
theorem just_3 (m : Int) (x : ByteArray) (l : List ByteArray) (ka : Option Addr) (kl kc : Nat) (w : World) (na : Option Addr) (nc : Nat) :
    Calls Tryz.prog 77 #[.agg #[.int .i64 3, .int .i64 m, .string x, .slice na l.length nc, .slice ka kl kc]] w fun e w' => e = .returned (.bool (decide (0 ≤ m ∧ m ≤ 1) && x.toList.isEmpty && ((l.length : Int) == 0) && ((kl : Int) == 0))) ∧ Below w.heap.size w w' := by
  by_cases h0 : m = 0
  · subst h0
    go_enter Tryz.func77, Tryz.ntmps77
    go_wp2_with fail
    all_goals
      go_ret
      exact ⟨bool_ret (by simp_all), (Below.refl _ _).alloc (Nat.le_refl _) _⟩
  by_cases h1 : m = 1
  · subst h1
    go_enter Tryz.func77, Tryz.ntmps77
    go_wp2_with fail
    all_goals
      go_ret
      exact ⟨bool_ret (by simp_all), (Below.refl _ _).alloc (Nat.le_refl _) _⟩
  have hd : decide (0 ≤ m ∧ m ≤ 1) = false := decide_eq_false (by omega)
  have hm0 : (m == 0) = false := by simpa using h0
  have hm1 : (m == 1) = false := by simpa using h1
  rw [hd]
  clear hd h0 h1
  go_enter Tryz.func77, Tryz.ntmps77
  go_wp2_with fail
  all_goals
    go_ret
    exact ⟨bool_ret (by simp_all), (Below.refl _ _).alloc (Nat.le_refl _) _⟩

set_option maxRecDepth 100000 in
set_option maxHeartbeats 2000000 in
theorem just_4 (m : Int) (x : ByteArray) (l : List ByteArray) (ka : Option Addr) (kl kc : Nat) (w : World) (na : Option Addr) (nc : Nat) :
    Calls Tryz.prog 77 #[.agg #[.int .i64 4, .int .i64 m, .string x, .slice na l.length nc, .slice ka kl kc]] w fun e w' => e = .returned (.bool ((m == 0) && x.toList.isEmpty && ((l.length : Int) == 0) && decide ((kl : Int) ≤ 20))) ∧ Below w.heap.size w w' := by
  go_enter Tryz.func77, Tryz.ntmps77
  go_wp2_with fail
  all_goals
    go_ret
    exact ⟨bool_ret (by simp_all), (Below.refl _ _).alloc (Nat.le_refl _) _⟩


set_option maxRecDepth 100000 in
set_option maxHeartbeats 2000000 in
theorem just_6 (m : Int) (x : ByteArray) (l : List ByteArray) (ka : Option Addr) (kl kc : Nat) (w : World) (na : Option Addr) (nc : Nat) :
    Calls Tryz.prog 77 #[.agg #[.int .i64 6, .int .i64 m, .string x, .slice na l.length nc, .slice ka kl kc]] w fun e w' => e = .returned (.bool ((m == 0) && x.toList.isEmpty && ((l.length : Int) == 0) && decide ((kl : Int) ≤ 1))) ∧ Below w.heap.size w w' := by
  go_enter Tryz.func77, Tryz.ntmps77
  go_wp2_with fail
  all_goals
    go_ret
    exact ⟨bool_ret (by simp_all), (Below.refl _ _).alloc (Nat.le_refl _) _⟩


end Go.Proofs.YtlinplghgamgbaaGreatDoor

/-
  The program's own functions on one node, more: hasJustItsSort at forms, at other sorts, at all.
-/
namespace Go.Proofs.YtlinplghgamgbaaGreatDoor
open Go.RowKit

set_option maxRecDepth 100000 in
set_option maxHeartbeats 2000000 in
theorem just_5 (m : Int) (x : ByteArray) (l : List ByteArray) (ka : Option Addr) (kl kc : Nat) (w : World) (na : Option Addr) (nc : Nat) (S : Nat → Prop) (hl : StrsIn S w l (.slice na l.length nc)) (hB : ∀ b, S b → b < w.heap.size) :
    Calls Tryz.prog 77 #[.agg #[.int .i64 5, .int .i64 m, .string x, .slice na l.length nc, .slice ka kl kc]] w fun e w' => e = .returned (.bool ((m == 0) && x.toList.isEmpty && ((l.length : Int) == (kl : Int)) && riseB l)) ∧ Below w.heap.size w w' := by
  by_cases hm : m = 0
  · subst hm
    cases hx : x.toList.isEmpty with
    | false =>
      go_enter Tryz.func77, Tryz.ntmps77
      go_wp2_with fail
      all_goals
        go_ret
        exact ⟨bool_ret (by simp_all), (Below.refl _ _).alloc (Nat.le_refl _) _⟩
    | true =>
      by_cases hk : l.length = kl
      · subst hk
        have hb0 := (Below.refl w.heap.size w).alloc (Nat.le_refl _) (.cells #[.int .i64 5, .int .i64 0, .string x, .slice na l.length nc, .slice ka l.length kc] 52)
        have hl' := hl.keep (same_below hb0 hB) (fun _ h => h)
        have HC : Hid (Calls Tryz.prog 92 #[.slice na l.length nc] _ _) := areFormNames_any S l _ _ hl'
        have hk : ((l.length : Int) == (l.length : Int)) = true := by simp
        clear hl hl' hB
        cases h0 : ((l.length : Int) == 0) with
        | true =>
          go_enter Tryz.func77, Tryz.ntmps77
          go_wp2_with fail
          refine HC.out.mono ?_
          rintro e w' ⟨rfl, rfl⟩
          go_wp2_with fail
          go_ret
          exact ⟨by simp, hb0⟩
        | false =>
          go_enter Tryz.func77, Tryz.ntmps77
          go_wp2_with fail
          refine HC.out.mono ?_
          rintro e w' ⟨rfl, rfl⟩
          go_wp2_with fail
          go_ret
          exact ⟨by simp, hb0⟩
      · have hk' : ((l.length : Int) == (kl : Int)) = false := by simp; omega
        rw [hk']
        clear hk
        cases h0 : ((l.length : Int) == 0) <;> cases h1 : ((kl : Int) == 0)
        all_goals
          go_enter Tryz.func77, Tryz.ntmps77
          go_wp2_with fail
          go_ret
          exact ⟨rfl, (Below.refl _ _).alloc (Nat.le_refl _) _⟩
  · have hm' : (m == 0) = false := by simpa using hm
    rw [hm']
    clear hm
    go_enter Tryz.func77, Tryz.ntmps77
    go_wp2_with fail
    all_goals
      go_ret
      exact ⟨bool_ret (by simp_all), (Below.refl _ _).alloc (Nat.le_refl _) _⟩

set_option maxRecDepth 100000 in
set_option maxHeartbeats 2000000 in
theorem just_other (s m : Int) (x : ByteArray) (l : List ByteArray) (ka : Option Addr) (kl kc : Nat) (w : World) (na : Option Addr) (nc : Nat)
    (h1 : (s == 1) = false) (h2 : (s == 2) = false) (h3 : (s == 3) = false) (h4 : (s == 4) = false) (h5 : (s == 5) = false) (h6 : (s == 6) = false) :
    Calls Tryz.prog 77 #[.agg #[.int .i64 s, .int .i64 m, .string x, .slice na l.length nc, .slice ka kl kc]] w fun e w' => e = .returned (.bool false) ∧ Below w.heap.size w w' := by
  go_enter Tryz.func77, Tryz.ntmps77
  go_wp2_with fail
  all_goals
    go_ret
    exact ⟨rfl, (Below.refl _ _).alloc (Nat.le_refl _) _⟩

theorem just_any (s m : Int) (x : ByteArray) (l : List ByteArray) (ka : Option Addr) (kl kc : Nat) (w : World) (na : Option Addr) (nc : Nat) (hx : x.size ≤ maxLen)
    (S : Nat → Prop) (hl : StrsIn S w l (.slice na l.length nc)) (hB : ∀ b, S b → b < w.heap.size) :
    Calls Tryz.prog 77 #[.agg #[.int .i64 s, .int .i64 m, .string x, .slice na l.length nc, .slice ka kl kc]] w fun e w' => e = .returned (.bool (aloneF s m x l kl)) ∧ Below w.heap.size w w' := by
  unfold aloneF
  by_cases h1 : s = 1
  · subst h1; rw [if_pos rfl]; exact just_1 m x l ka kl kc w na nc
  rw [if_neg h1]
  by_cases h2 : s = 2
  · subst h2; rw [if_pos rfl]; exact just_2 m x l ka kl kc w na nc hx
  rw [if_neg h2]
  by_cases h3 : s = 3
  · subst h3; rw [if_pos rfl]; exact just_3 m x l ka kl kc w na nc
  rw [if_neg h3]
  by_cases h4 : s = 4
  · subst h4; rw [if_pos rfl]; exact just_4 m x l ka kl kc w na nc
  rw [if_neg h4]
  by_cases h5 : s = 5
  · subst h5; rw [if_pos rfl]; exact just_5 m x l ka kl kc w na nc S hl hB
  rw [if_neg h5]
  by_cases h6 : s = 6
  · subst h6; rw [if_pos rfl]; exact just_6 m x l ka kl kc w na nc
  rw [if_neg h6]
  exact just_other s m x l ka kl kc w na nc (by simp [h1]) (by simp [h2]) (by simp [h3]) (by simp [h4]) (by simp [h5]) (by simp [h6])

end Go.Proofs.YtlinplghgamgbaaGreatDoor

/-
  The measure of the laws: what szStringS, szTreeS and szTree answer.
-/
namespace Go.Proofs.YtlinplghgamgbaaGreatDoor
open Go.RowKit


/-- what is left behind the first k names -/
def leftN (l : List ByteArray) (k : Nat) (left : Int) : Int := left - l.length - sumL (fun s : ByteArray => s.size) (l.take k)

theorem szN_eq (l : List ByteArray) : szN l = l.length + sumL (fun s : ByteArray => s.size) l := by
  induction l with
  | nil => rfl
  | cons x r ih => simp only [szN, sumL, List.length_cons, ih]; omega

set_option maxHeartbeats 400000 in
theorem szStringS_any (S : Nat → Prop) (l : List ByteArray) (v : Value) (left : Int) (w : World) (hl : StrsIn S w l v) (h0 : -1 ≤ left) (h1 : left ≤ 1048576) :
    Calls Tryz.prog 15 #[v, .int .i64 left] w fun e w' => e = .returned (.int .i64 (leftB (szN l) left)) ∧ w' = w := by
  obtain ⟨ao, cap, rfl, hlen, hs, hc⟩ := hl
  unfold maxLen at hlen
  by_cases hneg : left - l.length < 0
  · go_enter Tryz.func15, Tryz.ntmps15
    go_wp2
    go_ret
    exact ⟨ret_int (by rw [leftB, szN_eq, if_neg (by omega)]), rfl⟩
  go_enter Tryz.func15, Tryz.ntmps15
  go_wp2
  go_loop [1, 5] (fun a i => ∃ k : Nat, k ≤ l.length ∧ i = .int .i64 k ∧ a = .int .i64 (leftN l k left) ∧ 0 ≤ leftN l k left) (fun _ i => l.length - (intOf i).toNat)
  case atStart => exact ⟨0, Nat.zero_le _, rfl, by simp [leftN, sumL], by simp [leftN, sumL]; omega⟩
  case round =>
    obtain ⟨k, hk, rfl, rfl, hpos⟩ := hrel
    have hub : leftN l k left ≤ 1048576 := by unfold leftN; omega
    by_cases hlt : k < l.length
    · obtain ⟨b, off, rfl, -, hcell⟩ := hc (by intro h; rw [h] at hlt; simp at hlt)
      have hck := hcell k hlt
      have hsk := hs l[k] (List.getElem_mem hlt)
      have HS : Hid (leftN l (k + 1) left = leftN l k left - (l[k].size : Int)) := by
        show _ = _
        unfold leftN; rw [sumL_take_succ _ _ _ hlt]; omega
      have HT : Hid (leftN l (k + 1) left = left - l.length - sumL (fun s : ByteArray => s.size) (l.take (k + 1)) ∧ sumL (fun s : ByteArray => s.size) (l.take (k + 1)) ≤ sumL (fun s : ByteArray => s.size) l) := by
        refine ⟨rfl, ?_⟩
        have := sumL_append (fun s : ByteArray => s.size) (l.take (k + 1)) (l.drop (k + 1))
        rw [List.take_append_drop] at this; omega
      unfold maxLen at hsk
      clear hc hs hcell
      generalize l[k] = s at *
      generalize leftN l k left = m at *
      go_wp2
      · go_ret
        refine ⟨ret_int ?_, rfl⟩
        have h1 := HS.out
        have h2 := HT.out
        rw [leftB, szN_eq, if_neg (by omega)]
      · go_round
        case rel => exact ⟨k + 1, by omega, by go_num, by rw [HS.out], by rw [HS.out]; omega⟩
        case measure => simp [intOf]; omega
    · have hkl : k = l.length := by omega
      have HE : Hid (leftN l k left = leftB (szN l) left) := by
        show _ = _
        have e : leftN l k left = left - (szN l : Int) := by unfold leftN; rw [szN_eq, hkl, List.take_length]; omega
        rw [leftB, if_pos (by omega), e]
      clear hkl hc hs
      go_wp2
      go_ret
      exact ⟨ret_int HE.out, rfl⟩

/-- what is left behind the first k kids -/
def leftK {α : Type} (f : α → Nat) (l : List α) (k : Nat) (left : Int) : Int := leftB (l.length + sumL f (l.take k)) left

theorem sumL_one {α : Type} (f : α → Nat) (l : List α) : sumL (fun k => f k + 1) l = l.length + sumL f l := by
  induction l with
  | nil => rfl
  | cons x r ih => simp only [sumL, List.length_cons, ih]; omega

theorem leftK_succ {α : Type} (f : α → Nat) (l : List α) (k : Nat) (left : Int) (h : k < l.length) : leftK f l (k + 1) left = leftB (f l[k]) (leftK f l k left) := by
  unfold leftK; rw [leftB_add, sumL_take_succ _ _ _ h]; congr 1; omega

end Go.Proofs.YtlinplghgamgbaaGreatDoor

/-
  Five cells of a block, kept from call to call; a tree kept from call to call.
-/
namespace Go.Proofs.YtlinplghgamgbaaGreatDoor
open Go.RowKit

/-- Five cells of a block. -/
structure Box5 (w : World) (N : Nat) (a b c d e : Value) : Prop where
  c0 : w.cell? ⟨N, 0, none⟩ = some a
  c1 : w.cell? ⟨N, 1, none⟩ = some b
  c2 : w.cell? ⟨N, 2, none⟩ = some c
  c3 : w.cell? ⟨N, 3, none⟩ = some d
  c4 : w.cell? ⟨N, 4, none⟩ = some e

theorem Box5.keep {w w' : World} {N : Nat} {a b c d e : Value} (h : Box5 w N a b c d e) (hb : Below w.heap.size w w') : Box5 w' N a b c d e := by
  have hl : N < w.heap.size := by
    have h := h.c0
    exact Classical.byContradiction fun hge => by
      have : w.heap[N]? = none := Array.getElem?_eq_none (by omega)
      simp [World.cell?, this] at h
  exact ⟨(hb.cell (p := ⟨N, 0, none⟩) hl).trans h.c0, (hb.cell (p := ⟨N, 1, none⟩) hl).trans h.c1, (hb.cell (p := ⟨N, 2, none⟩) hl).trans h.c2, (hb.cell (p := ⟨N, 3, none⟩) hl).trans h.c3, (hb.cell (p := ⟨N, 4, none⟩) hl).trans h.c4⟩

theorem Box5.new (w : World) (a b c d e : Value) (t : TypeId) : Box5 (w.alloc (.cells #[a, b, c, d, e] t)) w.heap.size a b c d e :=
  ⟨by simp [go_sem], by simp [go_sem], by simp [go_sem], by simp [go_sem], by simp [go_sem]⟩

/-- A law's head: the argument in its box, and its measure. -/
theorem TreeIn.step {S : Nat → Prop} {w w' : World} {n : Nat} {t : T n} {c0 c1 c2 c3 c4 : Value} (h : TreeIn S w n t c0 c1 c2 c3 c4) (hS : ∀ b, S b → b < w.heap.size) (hb : Below w.heap.size w w') : TreeIn S w' n t c0 c1 c2 c3 c4 ∧ (∀ b, S b → b < w'.heap.size) :=
  ⟨h.keep (same_below hb hS) (fun _ h => h), fun b hb' => Nat.lt_of_lt_of_le (hS b hb') hb.size⟩

end Go.Proofs.YtlinplghgamgbaaGreatDoor

/-
  The program's walker at trees, with the closure by which isOk asks each part; isOk; TreeOk.
-/
namespace Go.Proofs.YtlinplghgamgbaaGreatDoor
open Go.RowKit

set_option maxHeartbeats 1000000 in
theorem accT_any (S : Nat → Prop) (s m : Int) (x : ByteArray) (hx : x.size ≤ maxLen) (l : List ByteArray) (na ka : Option Addr) (nc kl kc pb mb ab : Nat) (d p : Int) (w : World) (hl : StrsIn S w l (.slice na l.length nc)) (hB : ∀ b, S b → b < w.heap.size ∧ b ≠ pb)
    (hp : Cap w pb mb ab p 120 77) (hp0 : 0 ≤ p) (hp1 : p ≤ 120) :
    Calls Tryz.prog 89 #[.agg #[.int .i64 s, .int .i64 m, .string x, .slice na l.length nc, .slice ka kl kc], .int .i64 d, .pointer (some ⟨pb, 0, none⟩), .pointer (some ⟨mb, 0, none⟩), .pointer (some ⟨ab, 0, none⟩)] w
      fun e w' => e = .returned (.bool (decide (p + 1 ≤ 120) && decide (d ≤ 6) && aloneF s m x l kl)) ∧ Prt w' pb (p + 1) ∧ Near pb w w' := by
  have hlt := hp.parts.lt
  have hn0 : Near pb w (w.setCell ⟨pb, 0, none⟩ (.int .i64 (p + 1))) := Near.set pb 0 _ (.int .i64 (p + 1))
  have hn1 := hn0.trans (Near.alloc pb _ (.cells #[.int .i64 s, .int .i64 m, .string x, .slice na l.length nc, .slice ka kl kc] 52))
  have hp' : Prt ((w.setCell ⟨pb, 0, none⟩ (.int .i64 (p + 1))).alloc (.cells #[.int .i64 s, .int .i64 m, .string x, .slice na l.length nc, .slice ka kl kc] 52)) pb (p + 1) := (hp.parts.set (p + 1)).keep ((Below.refl _ _).alloc (Nat.le_refl _) _)
  have hl' := hl.keep (hn1.same hB) (fun _ h => h)
  have HC : Hid (Calls Tryz.prog 77 _ _ _) := just_any s m x l ka kl kc _ na nc hx S hl' (fun b hb => by have := (hB b hb).1; simp; omega)
  have c0 := hp.parts.cell
  have f0 := hp.parts.free
  have m0 := hp.max
  have a0 := hp.acc
  have nm := hp.nm
  have na' := hp.na
  have hm : mb < w.heap.size := cell_lt0 m0
  have ha : ab < w.heap.size := cell_lt0 a0
  have hne : w.heap.size ≠ pb := by omega
  clear hl hl' hp hn0 hB
  by_cases h1 : p + 1 ≤ 120
  · by_cases h2 : d ≤ 6
    · go_enter Tryz.func89, Tryz.ntmps89
      go_wp2_with fail
      refine HC.out.mono ?_
      rintro e w' ⟨rfl, hb1⟩
      have hp2 : Prt w' pb (p + 1) := (hb1.block pb (by simp; omega)).trans hp'
      have hn2 := hn1.trans (Near.of_below (bb := pb) hb1)
      clear hb1 HC
      go_wp2_with fail
      go_ret
      exact ⟨bool_ret (by simp [h1, h2]), hp2, hn2⟩
    · go_enter Tryz.func89, Tryz.ntmps89
      go_wp2_with fail
      go_ret
      exact ⟨bool_ret (by rw [decide_eq_false (show ¬ d ≤ 6 by omega)]; simp), hp', hn1⟩
  · go_enter Tryz.func89, Tryz.ntmps89
    go_wp2_with fail
    go_ret
    exact ⟨bool_ret (by rw [decide_eq_false (show ¬ p + 1 ≤ 120 by omega)]; simp), hp', hn1⟩

theorem all_take_kidT {α : Type} {p : α → Bool} {l : List α} (k : Nat) (h : k < l.length) (ht : (l.take k).all p = true) (hf : p l[k] = true) : (l.take (k + 1)).all p = true := by
  rw [List.take_succ_eq_append_getElem h, List.all_append, ht]; simpa using hf

/-- What walk does with a tree. -/
def WalkTPost (n : Nat) (t : T n) (d p : Int) (pb : Nat) (w : World) (e : Ending) (w' : World) : Prop :=
  Near pb w w' ∧ ∃ r, e = .returned (.bool r) ∧ (r = true → goodT n t d = true ∧ p + (cntT n t : Int) ≤ 120 ∧ Prt w' pb (p + cntT n t)) ∧ (r = false → ¬ (goodT n t d = true ∧ p + (cntT n t : Int) ≤ 120))

/-- The closure of isOk. -/
def clT (pb mb ab : Nat) : Value := .func (.func 89) #[] #[.pointer (some ⟨pb, 0, none⟩), .pointer (some ⟨mb, 0, none⟩), .pointer (some ⟨ab, 0, none⟩)]

/-- walk at trees of at most n levels. -/
def WalkTSaid (n : Nat) : Prop := ∀ (S : Nat → Prop) (t : T n) (c0 c1 c2 c3 c4 : Value) (d p : Int) (pb mb ab : Nat) (w : World), TreeIn S w n t c0 c1 c2 c3 c4 → (∀ b, S b → b < w.heap.size ∧ b ≠ pb) → Cap w pb mb ab p 120 77 → 0 ≤ p → p ≤ 120 → 1 ≤ d → d ≤ 7 →
  Calls Tryz.prog 88 #[.agg #[c0, c1, c2, c3, c4], .int .i64 d, clT pb mb ab] w (WalkTPost n t d p pb w)

set_option maxHeartbeats 1200000 in
theorem kidsT_any (a b c d e : Value) (ha : ∃ x l k, e = .slice x l k) (w : World) : Calls Tryz.prog 159 #[.agg #[a, b, c, d, e]] w fun e' w' => e' = .returned e ∧ Below w.heap.size w w' := by
  obtain ⟨x, l, k, rfl⟩ := ha
  have hb0 := (Below.refl w.heap.size w).alloc (Nat.le_refl _) (.cells #[a, b, c, d, .slice x l k] 52)
  go_enter Tryz.func159, Tryz.ntmps159
  go_wp2_with fail
  go_ret
  exact ⟨rfl, hb0⟩

theorem walkT_bad {n : Nat} {t : T (n + 1)} {d p : Int} (k : Nat) (hk : k < (Nd.kids t).length)
    (h : ¬ (goodT n (Nd.kids t)[k] (d + 1) = true ∧ p + 1 + (sumL (fun x => cntT n x) ((Nd.kids t).take k) : Int) + (cntT n (Nd.kids t)[k] : Int) ≤ 120)) : ¬ (goodT (n + 1) t d = true ∧ p + (cntT (n + 1) t : Int) ≤ 120) := by
  rintro ⟨h1, h2⟩
  apply h
  simp only [goodT, Bool.and_eq_true, List.all_eq_true] at h1
  refine ⟨h1.2 _ (List.getElem_mem hk), ?_⟩
  have e := sumL_take_succ (fun x => cntT n x) (Nd.kids t) k hk
  have e2 := sumL_append (fun x => cntT n x) ((Nd.kids t).take (k + 1)) ((Nd.kids t).drop (k + 1))
  rw [List.take_append_drop] at e2
  simp only [cntT] at h2
  omega

set_option maxRecDepth 100000 in
set_option maxHeartbeats 1000000 in
theorem walkT_step (n : Nat) (hn : WalkTSaid n) : WalkTSaid (n + 1) := by
  intro S t c0 c1 c2 c3 c4 d p pb mb ab w ht hB hcap hp0 hp1 hd1 hd7

  obtain ⟨rfl, rfl, rfl, hsx, -, -, h3, h4⟩ := ht
  obtain ⟨na, nc, rfl, -, -, -⟩ := id h3
  obtain ⟨ka, kc, rfl, hlen, -⟩ := id h4
  unfold maxLen at hlen
  have hlt := hcap.parts.lt
  generalize hs : Nd.sort t = s at *
  have hb0 := (Below.refl w.heap.size w).alloc (Nat.le_refl _) (.cells #[.int .i64 s, .int .i64 (Nd.num t), .string (Nd.text t), .slice na (Nd.names t).length nc, .slice ka (Nd.kids t).length kc] 52)
  have hn0 : Near pb w (w.alloc (.cells #[.int .i64 s, .int .i64 (Nd.num t), .string (Nd.text t), .slice na (Nd.names t).length nc, .slice ka (Nd.kids t).length kc] 52)) := Near.of_below hb0
  have h3' := h3.keep (hn0.same hB) (fun _ h => h)
  have HC : Hid (Calls Tryz.prog 89 _ _ _) := accT_any S s (Nd.num t) (Nd.text t) hsx (Nd.names t) na ka nc (Nd.kids t).length kc pb mb ab d p _ h3' (fun b hb => by have := hB b hb; simp; omega) (hcap.keep hn0 (hcap.parts.keep hb0)) hp0 hp1
  unfold clT
  go_enter Tryz.func88, Tryz.ntmps88
  go_wp2_with fail
  refine HC.out.mono ?_
  rintro e w1 ⟨rfl, hp2, hn1⟩
  have hn2 := hn0.trans hn1
  have hcap2 := hcap.keep hn2 hp2
  have hz2 := hn2.size
  have hz1 : w.heap.size < w1.heap.size := by have := hn1.size; simp at this; omega
  have k0 : w1.cell? ⟨w.heap.size, 0, none⟩ = some (.int .i64 s) := hn1.cell (by simp [go_sem]) (by omega)
  have k1 : w1.cell? ⟨w.heap.size, 1, none⟩ = some (.int .i64 (Nd.num t)) := hn1.cell (by simp [go_sem]) (by omega)
  have k2 : w1.cell? ⟨w.heap.size, 2, none⟩ = some (.string (Nd.text t)) := hn1.cell (by simp [go_sem]) (by omega)
  have k3 : w1.cell? ⟨w.heap.size, 3, none⟩ = some (.slice na (Nd.names t).length nc) := hn1.cell (by simp [go_sem]) (by omega)
  have k4 : w1.cell? ⟨w.heap.size, 4, none⟩ = some (.slice ka (Nd.kids t).length kc) := hn1.cell (by simp [go_sem]) (by omega)
  have h4' := h4.keepT (hn2.same hB) (fun _ h => h)
  clear HC hn0 hb0 h3' hn1 h3 h4
  generalize hok : (decide (p + 1 ≤ 120) && decide (d ≤ 6) && aloneF s (Nd.num t) (Nd.text t) (Nd.names t) (Nd.kids t).length) = ok
  cases ok with
  | false =>
    have HP : Hid (WalkTPost (n + 1) t d p pb w (.returned (.bool false)) w1) := by
      refine ⟨hn2, false, rfl, fun h => (by cases h), fun _ => ?_⟩
      rintro ⟨hg, hc⟩
      simp only [goodT, Bool.and_eq_true, decide_eq_true_eq] at hg
      have ha : aloneF s (Nd.num t) (Nd.text t) (Nd.names t) (Nd.kids t).length = true := by rw [← hs]; exact hg.1.2
      have : p + 1 ≤ 120 := by simp only [cntT] at hc; omega
      rw [ha, decide_eq_true hg.1.1, decide_eq_true this] at hok
      cases hok
    clear hok hs
    go_wp2_with fail
    go_ret
    exact HP.out
  | true =>
    simp only [Bool.and_eq_true, decide_eq_true_eq] at hok
    have HAL : Hid ((decide (d ≤ 6) && aloneB (show Nd (T n) from t)) = true) := by show (_ && aloneF (Nd.sort t) _ _ _ _) = _; rw [hs, hok.2, decide_eq_true hok.1.2]; rfl
    obtain ⟨⟨ho1, ho2⟩, -⟩ := hok
    clear hs
    go_wp2_with fail
    refine (kidsT_any _ _ _ _ _ ⟨_, _, _, rfl⟩ _).mono ?_
    rintro e w2 ⟨rfl, hb2⟩
    have hn3 : Near pb w w2 := hn2.trans (Near.of_below hb2)
    have hp3 : Prt w2 pb (p + 1) := hp2.keep hb2
    have hz3 := hb2.size
    have h5 := h4'.keepT ((Near.of_below (bb := pb) hb2).same (fun b hb => by have := hB b hb; omega)) (fun _ h => h)
    clear h4' hb2 hcap2 hn2 hp2 k0 k1 k2 k3 k4
    obtain ⟨_, _, hkv, -, hkids⟩ := h5
    cases hkv
    go_wp2_with fail
    go_loopw [18] (fun i wr => ∃ k : Nat, k ≤ (Nd.kids t).length ∧ i = .int .i64 k ∧ Near pb w2 wr ∧ Prt wr pb (p + 1 + (sumL (fun x => cntT n x) ((Nd.kids t).take k) : Int)) ∧
        p + 1 + (sumL (fun x => cntT n x) ((Nd.kids t).take k) : Int) ≤ 120 ∧ ((Nd.kids t).take k).all (fun x => goodT n x (d + 1)) = true) (fun i _ => (Nd.kids t).length - (intOf i).toNat)
    case atStart => exact ⟨0, Nat.zero_le _, rfl, Near.refl _ _, by simpa [sumL] using hp3, by simpa [sumL] using ho1, by simp⟩
    case round =>
      obtain ⟨k, hk, rfl, hnr, hpr, hfew, hall⟩ := hrel
      have HALL := hidF hall
      clear hall
      have hzr := hnr.size
      have hn4 := hn3.trans hnr
      have hltr := hpr.lt
      by_cases hlt : k < (Nd.kids t).length
      · obtain ⟨b, off, rfl, hbB, hcell⟩ := hkids (by intro h; rw [h] at hlt; simp at hlt)
        obtain ⟨x0, x1, x2, x3, x4, e0, e1, e2, e3, e4, hr⟩ := hcell k hlt
        have hbb := hB b hbB
        have f0 := hnr.cell e0 hbb.2
        have f1 := hnr.cell e1 hbb.2
        have f2 := hnr.cell e2 hbb.2
        have f3 := hnr.cell e3 hbb.2
        have f4 := hnr.cell e4 hbb.2
        have q := hr.keep (hnr.same (fun b hb => by have := hB b hb; omega)) (fun _ h => h)
        obtain ⟨y0, y1, y2, ya, yl, yc, za, zl, zc, rfl, rfl, rfl, rfl, rfl⟩ := q.shape
        clear hkids hcell e0 e1 e2 e3 e4 hr
        have hb5 := (Below.refl wr.heap.size wr).alloc (Nat.le_refl _) (.cells #[.int .i64 y0, .int .i64 y1, .string y2, .slice ya yl yc, .slice za zl zc] 52)
        have hn5 : Near pb wr (wr.alloc (.cells #[.int .i64 y0, .int .i64 y1, .string y2, .slice ya yl yc, .slice za zl zc] 52)) := Near.of_below hb5
        have q5 := q.keep (hn5.same (fun b hb => by have := hB b hb; omega)) (fun _ h => h)
        have hcap5 := hcap.keep (hn4.trans hn5) (hpr.keep hb5)
        have HC : Hid (Calls Tryz.prog 88 _ _ _) := hn S (Nd.kids t)[k] _ _ _ _ _ (d + 1) _ pb mb ab _ q5 (fun b hb => by have := hB b hb; simp; omega) hcap5 (by omega) hfew (by omega) (by omega)
        have HBad := @walkT_bad n t d p k hlt
        have HSum : Hid (sumL (fun x => cntT n x) ((Nd.kids t).take (k + 1)) = sumL (fun x => cntT n x) ((Nd.kids t).take k) + cntT n (Nd.kids t)[k]) := sumL_take_succ _ _ _ hlt
        clear q q5 hcap5 hb5
        unfold clT at HC
        go_wp2_with fail
        refine HC.out.mono ?_
        rintro e w3 ⟨hn6, r, rfl, hyes, hno⟩
        have hn7 := hnr.trans (hn5.trans hn6)
        cases r with
        | false =>
          have HP : Hid (WalkTPost (n + 1) t d p pb w (.returned (.bool false)) w3) := ⟨hn3.trans hn7, false, rfl, fun h => (by cases h), fun _ => HBad (hno rfl)⟩
          clear HBad hno hyes HSum HALL hn6 hn7 hn5 hn4
          go_wp2_with fail
          go_ret
          exact HP.out
        | true =>
          obtain ⟨hg, hc, hp6⟩ := hyes rfl
          have HR : Hid (Near pb w2 w3 ∧ Prt w3 pb (p + 1 + (sumL (fun x => cntT n x) ((Nd.kids t).take (k + 1)) : Int)) ∧ p + 1 + (sumL (fun x => cntT n x) ((Nd.kids t).take (k + 1)) : Int) ≤ 120 ∧ ((Nd.kids t).take (k + 1)).all (fun x => goodT n x (d + 1)) = true) := by
            refine ⟨hn7, ?_, ?_, all_take_kidT k hlt HALL.out hg⟩
            · rw [HSum.out, show p + 1 + ((sumL (fun x => cntT n x) ((Nd.kids t).take k) + cntT n (Nd.kids t)[k] : Nat) : Int) = p + 1 + (sumL (fun x => cntT n x) ((Nd.kids t).take k) : Int) + (cntT n (Nd.kids t)[k] : Int) by omega]
              exact hp6
            · rw [HSum.out]; omega
          clear HBad hno hyes HSum HALL hn6 hn7 hn5 hn4 hg hc hp6 hpr hfew
          go_wp2_with fail
          go_roundw
          case rel => exact ⟨k + 1, by omega, by go_num, HR.out.1, HR.out.2.1, HR.out.2.2.1, HR.out.2.2.2⟩
          case measure => simp [intOf]; omega
      · have hkl : k = (Nd.kids t).length := by omega
        have HP : Hid (WalkTPost (n + 1) t d p pb w (.returned (.bool true)) wr) := by
          have h1 := HALL.out
          rw [hkl, List.take_length] at h1 hpr hfew
          have e : p + 1 + (sumL (fun x => cntT n x) (Nd.kids t) : Int) = p + (cntT (n + 1) t : Int) := by simp only [cntT]; omega
          rw [e] at hpr hfew
          exact ⟨hn4, true, rfl, fun _ => ⟨by have := HAL.out; simp only [goodT, this, h1, Bool.and_self], hfew, hpr⟩, fun h => (by cases h)⟩
        clear hkl hkids HALL hn4 hpr hfew
        go_wp2_with fail
        go_ret
        exact HP.out

theorem walkT_any : ∀ n, WalkTSaid n := by
  intro n
  induction n with
  | zero => intro S t c0 c1 c2 c3 c4 d p pb mb ab w ht; exact ht.elim
  | succ n ih => exact walkT_step n ih

set_option maxRecDepth 100000 in
set_option maxHeartbeats 1000000 in
theorem isOkT_any (n : Nat) (S : Nat → Prop) (t : T n) (c0 c1 c2 c3 c4 : Value) (w : World) (ht : TreeIn S w n t c0 c1 c2 c3 c4) (hB : ∀ b, S b → b < w.heap.size) :
    Calls Tryz.prog 76 #[.agg #[c0, c1, c2, c3, c4], .int .i64 120, .func (.func 77) #[] #[]] w fun e w' => e = .returned (.bool (okT n t)) ∧ Below w.heap.size w w' := by
  have hmf : ∀ (fn : Fn) (first cap : Array Value) (w : World), (Instr.makeFunc fn first cap).run Tryz.prog w = .ok (.func fn first cap) w := fun _ _ _ _ => rfl
  obtain ⟨x0, x1, x2, xa, xl, xc, ya, yl, yc, rfl, rfl, rfl, rfl, rfl⟩ := ht.shape
  have hb : Below w.heap.size w ((((w.alloc (.cells #[.int .i64 x0, .int .i64 x1, .string x2, .slice xa xl xc, .slice ya yl yc] 52)).alloc (.cells #[.int .i64 120] 3)).alloc (.cells #[.func (.func 77) #[] #[]] 67)).alloc (.cells #[.int .i64 0] 3)) :=
    ((((Below.refl _ _).alloc (Nat.le_refl _) _).alloc (by simp) _).alloc (by simp; omega) _).alloc (by simp; omega) _
  have ht' := ht.keep (same_below hb hB) (fun _ h => h)
  have HC : Hid (Calls Tryz.prog 88 _ _ _) := walkT_any n S t _ _ _ _ _ 1 0 (w.heap.size + 1 + 1 + 1) (w.heap.size + 1) (w.heap.size + 1 + 1) _ ht' (fun b hb => by have := hB b hb; simp; omega)
    ⟨by rw [show w.heap.size + 1 + 1 + 1 = (((w.alloc (.cells #[.int .i64 x0, .int .i64 x1, .string x2, .slice xa xl xc, .slice ya yl yc] 52)).alloc (.cells #[.int .i64 120] 3)).alloc (.cells #[.func (.func 77) #[] #[]] 67)).heap.size by simp]; exact Prt.new _ 0,
      by simp [go_sem], by simp [go_sem], by omega, by omega⟩ (by omega) (by omega) (by omega) (by omega)
  unfold clT at HC
  clear ht ht'
  go_enter Tryz.func76, Tryz.ntmps76
  go_wp2_with fail
  refine HC.out.mono ?_
  rintro e w1 ⟨hn, r, rfl, hyes, hno⟩
  have hb1 : Below w.heap.size w w1 := hb.trans (hn.below (by omega) (by simp; omega))
  have hr : r = okT n t := by
    cases r with
    | true =>
      obtain ⟨h1, h2, -⟩ := hyes rfl
      unfold okT; rw [h1, decide_eq_true (by omega)]; rfl
    | false =>
      symm
      rw [Bool.eq_false_iff]
      intro h
      simp only [okT, Bool.and_eq_true, decide_eq_true_eq] at h
      exact hno rfl ⟨h.1, by omega⟩
  clear hyes hno hn hb HC
  go_wp2_with fail
  go_ret
  exact ⟨rfl, hb1⟩

set_option maxRecDepth 100000 in
set_option maxHeartbeats 1200000 in
theorem implOk_any (n : Nat) (S : Nat → Prop) (t : T n) (c0 c1 c2 c3 c4 : Value) (w : World) (ht : TreeIn S w n t c0 c1 c2 c3 c4) (hB : ∀ b, S b → b < w.heap.size) :
    Calls Tryz.prog 61 #[.agg #[c0, c1, c2, c3, c4]] w fun e w' => e = .returned (.bool (okT n t)) ∧ Below w.heap.size w w' := by
  obtain ⟨x0, x1, x2, xa, xl, xc, ya, yl, yc, rfl, rfl, rfl, rfl, rfl⟩ := ht.shape
  have hb0 := (Below.refl w.heap.size w).alloc (Nat.le_refl _) (.cells #[.int .i64 x0, .int .i64 x1, .string x2, .slice xa xl xc, .slice ya yl yc] 52)
  obtain ⟨ht0, hB0⟩ := ht.step hB hb0
  have HC : Hid (Calls Tryz.prog 76 _ _ _) := isOkT_any n S t _ _ _ _ _ _ ht0 hB0
  clear ht ht0
  go_enter Tryz.func61, Tryz.ntmps61
  go_wp2_with fail
  refine HC.out.mono ?_
  rintro e w1 ⟨rfl, hb1⟩
  have hb2 := below_step hb0 (by simp) hb1
  clear hb0 hb1 HC
  go_wp2_with fail
  go_ret
  exact ⟨rfl, hb2⟩

end Go.Proofs.YtlinplghgamgbaaGreatDoor

/-
  Schemas in memory: what it means that three cells hold a schema, all of whose memory lies in given blocks; and that this lasts while those are not written.
-/
namespace Go.Proofs.YtlinplghgamgbaaGreatDoor
open Go.RowKit

/-- A slice of things of three cells each, in blocks of S. -/
def RowIn3 {α : Type} (S : Nat → Prop) (w : World) (R : α → Value → Value → Value → Prop) (l : List α) (v : Value) : Prop :=
  ∃ (ao : Option Addr) (cap : Nat), v = .slice ao l.length cap ∧ l.length ≤ maxLen ∧
    (l ≠ [] → ∃ b off, ao = some ⟨b, off, none⟩ ∧ S b ∧ ∀ i (h : i < l.length), ∃ c0 c1 c2, w.cell? ⟨b, off + i * 3, none⟩ = some c0 ∧ w.cell? ⟨b, off + i * 3 + 1, none⟩ = some c1 ∧
      w.cell? ⟨b, off + i * 3 + 2, none⟩ = some c2 ∧ R l[i] c0 c1 c2)

/-- Three cells hold a schema, its memory in blocks of S. -/
def KindIn (S : Nat → Prop) (w : World) : (n : Nat) → K n → Value → Value → Value → Prop
  | 0, _, _, _, _ => False
  | n + 1, t, c0, c1, c2 => c0 = .int .i64 (Kd.sort t) ∧ (Lit.int .i64 (Kd.sort t)).wf = true ∧ StrsIn S w (Kd.names t) c1 ∧ RowIn3 S w (KindIn S w n) (Kd.kids t) c2

theorem RowIn3.keep {α : Type} {S S' : Nat → Prop} {w w' : World} {R R' : α → Value → Value → Value → Prop} {l : List α} {v : Value} (h : RowIn3 S w R l v) (hb : Same S w w') (hS : ∀ b, S b → S' b)
    (hR : ∀ x c0 c1 c2, x ∈ l → R x c0 c1 c2 → R' x c0 c1 c2) : RowIn3 S' w' R' l v := by
  obtain ⟨ao, cap, hv, hl, hc⟩ := h
  refine ⟨ao, cap, hv, hl, fun hne => ?_⟩
  obtain ⟨b, off, ha, hB, hcell⟩ := hc hne
  refine ⟨b, off, ha, hS b hB, fun i hi => ?_⟩
  obtain ⟨c0, c1, c2, h0, h1, h2, hr⟩ := hcell i hi
  exact ⟨c0, c1, c2, (hb.cell (p := ⟨b, off + i * 3, none⟩) hB).trans h0, (hb.cell (p := ⟨b, off + i * 3 + 1, none⟩) hB).trans h1, (hb.cell (p := ⟨b, off + i * 3 + 2, none⟩) hB).trans h2,
    hR _ _ _ _ (List.getElem_mem hi) hr⟩

theorem KindIn.keep {S S' : Nat → Prop} {w w' : World} (hb : Same S w w') (hS : ∀ b, S b → S' b) : ∀ {n : Nat} {t : K n} {c0 c1 c2 : Value}, KindIn S w n t c0 c1 c2 → KindIn S' w' n t c0 c1 c2 := by
  intro n
  induction n with
  | zero => intro t c0 c1 c2 h; exact h.elim
  | succ n ih =>
    intro t c0 c1 c2 h
    obtain ⟨h0, hw0, h3, h4⟩ := h
    exact ⟨h0, hw0, h3.keep hb hS, h4.keep hb hS fun x _ _ _ _ hx => ih hx⟩

theorem RowIn3.keepK {S S' : Nat → Prop} {w w' : World} {n : Nat} {l : List (K n)} {v : Value} (h : RowIn3 S w (KindIn S w n) l v) (hb : Same S w w') (hS : ∀ b, S b → S' b) : RowIn3 S' w' (KindIn S' w' n) l v :=
  h.keep hb hS fun _ _ _ _ _ hx => hx.keep hb hS

theorem KindIn.shape {S : Nat → Prop} {w : World} : ∀ {n : Nat} {t : K n} {c0 c1 c2 : Value}, KindIn S w n t c0 c1 c2 →
    ∃ (s : Int) (a : Option Addr) (l c : Nat) (a' : Option Addr) (l' c' : Nat), c0 = .int .i64 s ∧ c1 = .slice a l c ∧ c2 = .slice a' l' c' := by
  intro n
  cases n with
  | zero => intro t c0 c1 c2 h; exact h.elim
  | succ n =>
    intro t c0 c1 c2 h
    obtain ⟨h0, hw0, ⟨ao, cap, h3, -⟩, ⟨ao', cap', h4, -⟩⟩ := h
    exact ⟨_, _, _, _, _, _, _, h0, h3, h4⟩

/-- Three cells of a world, stored one behind the other. -/
def put3 (w : World) (b o : Nat) (g0 g1 g2 : Value) : World :=
  ((w.setCell ⟨b, o, none⟩ g0).setCell ⟨b, o + 1, none⟩ g1).setCell ⟨b, o + 2, none⟩ g2

theorem put3_other {w : World} {b o : Nat} {g0 g1 g2 : Value} {k : Nat} (h : k ≠ b) : (put3 w b o g0 g1 g2).heap[k]? = w.heap[k]? := by
  unfold put3
  rw [Below.heap_setCell _ _ _ _ h, Below.heap_setCell _ _ _ _ h, Below.heap_setCell _ _ _ _ h]

theorem put3_size {w : World} {b o : Nat} {g0 g1 g2 : Value} : (put3 w b o g0 g1 g2).heap.size = w.heap.size := by
  simp [put3]

theorem put3_below {B : Nat} {a w : World} {b o : Nat} {g0 g1 g2 : Value} (h : Below B a w) (hb : B ≤ b) : Below B a (put3 w b o g0 g1 g2) :=
  ((h.setCell hb g0).setCell hb g1).setCell hb g2

/-- Three cells of a block. -/
structure Box3 (w : World) (N : Nat) (a b c : Value) : Prop where
  c0 : w.cell? ⟨N, 0, none⟩ = some a
  c1 : w.cell? ⟨N, 1, none⟩ = some b
  c2 : w.cell? ⟨N, 2, none⟩ = some c

theorem Box3.keep {w w' : World} {N : Nat} {a b c : Value} (h : Box3 w N a b c) (hb : Below w.heap.size w w') : Box3 w' N a b c := by
  have hl : N < w.heap.size := by
    have h := h.c0
    exact Classical.byContradiction fun hge => by
      have : w.heap[N]? = none := Array.getElem?_eq_none (by omega)
      simp [World.cell?, this] at h
  exact ⟨(hb.cell (p := ⟨N, 0, none⟩) hl).trans h.c0, (hb.cell (p := ⟨N, 1, none⟩) hl).trans h.c1, (hb.cell (p := ⟨N, 2, none⟩) hl).trans h.c2⟩

theorem Box3.new (w : World) (a b c : Value) (t : TypeId) : Box3 (w.alloc (.cells #[a, b, c] t)) w.heap.size a b c :=
  ⟨by simp [go_sem], by simp [go_sem], by simp [go_sem]⟩

theorem KindIn.step {S : Nat → Prop} {w w' : World} {n : Nat} {t : K n} {c0 c1 c2 : Value} (h : KindIn S w n t c0 c1 c2) (hS : ∀ b, S b → b < w.heap.size) (hb : Below w.heap.size w w') : KindIn S w' n t c0 c1 c2 ∧ (∀ b, S b → b < w'.heap.size) :=
  ⟨h.keep (same_below hb hS) (fun _ h => h), fun b hb' => Nat.lt_of_lt_of_le (hS b hb') hb.size⟩

end Go.Proofs.YtlinplghgamgbaaGreatDoor

/-
  The program's own function on one node of a schema: hasJustItsKids.
-/
namespace Go.Proofs.YtlinplghgamgbaaGreatDoor
open Go.RowKit

set_option maxRecDepth 100000 in
set_option maxHeartbeats 2000000 in
theorem justK_leaf (s : Int) (l : List ByteArray) (ka : Option Addr) (kl kc : Nat) (w : World) (na : Option Addr) (nc : Nat) (hs : s = 1 ∨ s = 2 ∨ s = 3) :
    Calls Tryz.prog 114 #[.agg #[.int .i64 s, .slice na l.length nc, .slice ka kl kc]] w fun e w' => e = .returned (.bool (((l.length : Int) == 0) && ((kl : Int) == 0))) ∧ Below w.heap.size w w' := by
  rcases hs with rfl | rfl | rfl
  all_goals
    go_enter Tryz.func114, Tryz.ntmps114
    go_wp2_with fail
    all_goals
      go_ret
      exact ⟨bool_ret (by simp_all), (Below.refl _ _).alloc (Nat.le_refl _) _⟩

set_option maxRecDepth 100000 in
set_option maxHeartbeats 2000000 in
theorem justK_one (s : Int) (l : List ByteArray) (ka : Option Addr) (kl kc : Nat) (w : World) (na : Option Addr) (nc : Nat) (hs : s = 4 ∨ s = 6) :
    Calls Tryz.prog 114 #[.agg #[.int .i64 s, .slice na l.length nc, .slice ka kl kc]] w fun e w' => e = .returned (.bool (((l.length : Int) == 0) && ((kl : Int) == 1))) ∧ Below w.heap.size w w' := by
  rcases hs with rfl | rfl
  all_goals
    go_enter Tryz.func114, Tryz.ntmps114
    go_wp2_with fail
    all_goals
      go_ret
      exact ⟨bool_ret (by simp_all), (Below.refl _ _).alloc (Nat.le_refl _) _⟩

set_option maxRecDepth 100000 in
set_option maxHeartbeats 2000000 in
theorem justK_form (l : List ByteArray) (ka : Option Addr) (kl kc : Nat) (w : World) (na : Option Addr) (nc : Nat) (S : Nat → Prop) (hl : StrsIn S w l (.slice na l.length nc)) (hB : ∀ b, S b → b < w.heap.size) :
    Calls Tryz.prog 114 #[.agg #[.int .i64 5, .slice na l.length nc, .slice ka kl kc]] w fun e w' => e = .returned (.bool (((l.length : Int) == (kl : Int)) && riseB l)) ∧ Below w.heap.size w w' := by
  by_cases hk : l.length = kl
  · subst hk
    have hb0 := (Below.refl w.heap.size w).alloc (Nat.le_refl _) (.cells #[.int .i64 5, .slice na l.length nc, .slice ka l.length kc] 70)
    have hl' := hl.keep (same_below hb0 hB) (fun _ h => h)
    have HC : Hid (Calls Tryz.prog 92 #[.slice na l.length nc] _ _) := areFormNames_any S l _ _ hl'
    have hk : ((l.length : Int) == (l.length : Int)) = true := by simp
    clear hl hl' hB
    go_enter Tryz.func114, Tryz.ntmps114
    go_wp2_with fail
    refine HC.out.mono ?_
    rintro e w' ⟨rfl, rfl⟩
    go_wp2_with fail
    go_ret
    exact ⟨by simp, hb0⟩
  · have hk' : ((l.length : Int) == (kl : Int)) = false := by simp; omega
    rw [hk']
    clear hk
    go_enter Tryz.func114, Tryz.ntmps114
    go_wp2_with fail
    go_ret
    exact ⟨rfl, (Below.refl _ _).alloc (Nat.le_refl _) _⟩

set_option maxRecDepth 100000 in
set_option maxHeartbeats 2000000 in
theorem justK_other (s : Int) (l : List ByteArray) (ka : Option Addr) (kl kc : Nat) (w : World) (na : Option Addr) (nc : Nat)
    (h1 : (s == 1) = false) (h2 : (s == 2) = false) (h3 : (s == 3) = false) (h4 : (s == 4) = false) (h5 : (s == 5) = false) (h6 : (s == 6) = false) :
    Calls Tryz.prog 114 #[.agg #[.int .i64 s, .slice na l.length nc, .slice ka kl kc]] w fun e w' => e = .returned (.bool false) ∧ Below w.heap.size w w' := by
  have hb0 := (Below.refl w.heap.size w).alloc (Nat.le_refl _) (.cells #[.int .i64 s, .slice na l.length nc, .slice ka kl kc] 70)
  go_enter Tryz.func114, Tryz.ntmps114
  go_wp2_with fail
  go_ret
  exact ⟨rfl, hb0⟩

theorem justK_any (s : Int) (l : List ByteArray) (ka : Option Addr) (kl kc : Nat) (w : World) (na : Option Addr) (nc : Nat)
    (S : Nat → Prop) (hl : StrsIn S w l (.slice na l.length nc)) (hB : ∀ b, S b → b < w.heap.size) :
    Calls Tryz.prog 114 #[.agg #[.int .i64 s, .slice na l.length nc, .slice ka kl kc]] w fun e w' => e = .returned (.bool (aloneKF s l kl)) ∧ Below w.heap.size w w' := by
  unfold aloneKF
  by_cases h1 : s = 1
  · subst h1; rw [if_pos rfl]; exact justK_leaf 1 l ka kl kc w na nc (.inl rfl)
  rw [if_neg h1]
  by_cases h2 : s = 2
  · subst h2; rw [if_pos rfl]; exact justK_leaf 2 l ka kl kc w na nc (.inr (.inl rfl))
  rw [if_neg h2]
  by_cases h3 : s = 3
  · subst h3; rw [if_pos rfl]; exact justK_leaf 3 l ka kl kc w na nc (.inr (.inr rfl))
  rw [if_neg h3]
  by_cases h4 : s = 4
  · subst h4; rw [if_pos rfl]; exact justK_one 4 l ka kl kc w na nc (.inl rfl)
  rw [if_neg h4]
  by_cases h5 : s = 5
  · subst h5; rw [if_pos rfl]; exact justK_form l ka kl kc w na nc S hl hB
  rw [if_neg h5]
  by_cases h6 : s = 6
  · subst h6; rw [if_pos rfl]; exact justK_one 6 l ka kl kc w na nc (.inr rfl)
  rw [if_neg h6]
  exact justK_other s l ka kl kc w na nc (by simp [h1]) (by simp [h2]) (by simp [h3]) (by simp [h4]) (by simp [h5]) (by simp [h6])

end Go.Proofs.YtlinplghgamgbaaGreatDoor

/-
  The program's walker at schemas, with the closure by which isOk asks each part; isOk; KindOk.
-/
namespace Go.Proofs.YtlinplghgamgbaaGreatDoor
open Go.RowKit

set_option maxHeartbeats 1000000 in
theorem accK_any (S : Nat → Prop) (s : Int) (l : List ByteArray) (na ka : Option Addr) (nc kl kc pb mb ab : Nat) (d p : Int) (w : World) (hl : StrsIn S w l (.slice na l.length nc)) (hB : ∀ b, S b → b < w.heap.size ∧ b ≠ pb)
    (hp : Cap w pb mb ab p 40 114) (hp0 : 0 ≤ p) (hp1 : p ≤ 40) :
    Calls Tryz.prog 129 #[.agg #[.int .i64 s, .slice na l.length nc, .slice ka kl kc], .int .i64 d, .pointer (some ⟨pb, 0, none⟩), .pointer (some ⟨mb, 0, none⟩), .pointer (some ⟨ab, 0, none⟩)] w
      fun e w' => e = .returned (.bool (decide (p + 1 ≤ 40) && decide (d ≤ 6) && aloneKF s l kl)) ∧ Prt w' pb (p + 1) ∧ Near pb w w' := by
  have hlt := hp.parts.lt
  have hn0 : Near pb w (w.setCell ⟨pb, 0, none⟩ (.int .i64 (p + 1))) := Near.set pb 0 _ (.int .i64 (p + 1))
  have hn1 := hn0.trans (Near.alloc pb _ (.cells #[.int .i64 s, .slice na l.length nc, .slice ka kl kc] 70))
  have hp' : Prt ((w.setCell ⟨pb, 0, none⟩ (.int .i64 (p + 1))).alloc (.cells #[.int .i64 s, .slice na l.length nc, .slice ka kl kc] 70)) pb (p + 1) := (hp.parts.set (p + 1)).keep ((Below.refl _ _).alloc (Nat.le_refl _) _)
  have hl' := hl.keep (hn1.same hB) (fun _ h => h)
  have HC : Hid (Calls Tryz.prog 114 _ _ _) := justK_any s l ka kl kc _ na nc S hl' (fun b hb => by have := (hB b hb).1; simp; omega)
  have c0 := hp.parts.cell
  have f0 := hp.parts.free
  have m0 := hp.max
  have a0 := hp.acc
  have nm := hp.nm
  have na' := hp.na
  have hm : mb < w.heap.size := cell_lt0 m0
  have ha : ab < w.heap.size := cell_lt0 a0
  have hne : w.heap.size ≠ pb := by omega
  clear hl hl' hp hn0 hB
  by_cases h1 : p + 1 ≤ 40
  · by_cases h2 : d ≤ 6
    · go_enter Tryz.func129, Tryz.ntmps129
      go_wp2_with fail
      refine HC.out.mono ?_
      rintro e w' ⟨rfl, hb1⟩
      have hp2 : Prt w' pb (p + 1) := (hb1.block pb (by simp; omega)).trans hp'
      have hn2 := hn1.trans (Near.of_below (bb := pb) hb1)
      clear hb1 HC
      go_wp2_with fail
      go_ret
      exact ⟨bool_ret (by simp [h1, h2]), hp2, hn2⟩
    · go_enter Tryz.func129, Tryz.ntmps129
      go_wp2_with fail
      go_ret
      exact ⟨bool_ret (by rw [decide_eq_false (show ¬ d ≤ 6 by omega)]; simp), hp', hn1⟩
  · go_enter Tryz.func129, Tryz.ntmps129
    go_wp2_with fail
    go_ret
    exact ⟨bool_ret (by rw [decide_eq_false (show ¬ p + 1 ≤ 40 by omega)]; simp), hp', hn1⟩

/-- What walk does with a schema. -/
def WalkKPost (n : Nat) (t : K n) (d p : Int) (pb : Nat) (w : World) (e : Ending) (w' : World) : Prop :=
  Near pb w w' ∧ ∃ r, e = .returned (.bool r) ∧ (r = true → goodK n t d = true ∧ p + (cntK n t : Int) ≤ 40 ∧ Prt w' pb (p + cntK n t)) ∧ (r = false → ¬ (goodK n t d = true ∧ p + (cntK n t : Int) ≤ 40))

/-- The closure of isOk. -/
def clK (pb mb ab : Nat) : Value := .func (.func 129) #[] #[.pointer (some ⟨pb, 0, none⟩), .pointer (some ⟨mb, 0, none⟩), .pointer (some ⟨ab, 0, none⟩)]

/-- walk at schemas of at most n levels. -/
def WalkKSaid (n : Nat) : Prop := ∀ (S : Nat → Prop) (t : K n) (c0 c1 c2 : Value) (d p : Int) (pb mb ab : Nat) (w : World), KindIn S w n t c0 c1 c2 → (∀ b, S b → b < w.heap.size ∧ b ≠ pb) → Cap w pb mb ab p 40 114 → 0 ≤ p → p ≤ 40 → 1 ≤ d → d ≤ 7 →
  Calls Tryz.prog 128 #[.agg #[c0, c1, c2], .int .i64 d, clK pb mb ab] w (WalkKPost n t d p pb w)

set_option maxHeartbeats 400000 in
theorem kidsK_any (a b c : Value) (ha : ∃ x l k, c = .slice x l k) (w : World) : Calls Tryz.prog 160 #[.agg #[a, b, c]] w fun e w' => e = .returned c ∧ Below w.heap.size w w' := by
  obtain ⟨x, l, k, rfl⟩ := ha
  have hb0 := (Below.refl w.heap.size w).alloc (Nat.le_refl _) (.cells #[a, b, .slice x l k] 70)
  go_enter Tryz.func160, Tryz.ntmps160
  go_wp2_with fail
  go_ret
  exact ⟨rfl, hb0⟩

theorem walkK_bad {n : Nat} {t : K (n + 1)} {d p : Int} (k : Nat) (hk : k < (Kd.kids t).length)
    (h : ¬ (goodK n (Kd.kids t)[k] (d + 1) = true ∧ p + 1 + (sumL (fun x => cntK n x) ((Kd.kids t).take k) : Int) + (cntK n (Kd.kids t)[k] : Int) ≤ 40)) : ¬ (goodK (n + 1) t d = true ∧ p + (cntK (n + 1) t : Int) ≤ 40) := by
  rintro ⟨h1, h2⟩
  apply h
  simp only [goodK, Bool.and_eq_true, List.all_eq_true] at h1
  refine ⟨h1.2 _ (List.getElem_mem hk), ?_⟩
  have e := sumL_take_succ (fun x => cntK n x) (Kd.kids t) k hk
  have e2 := sumL_append (fun x => cntK n x) ((Kd.kids t).take (k + 1)) ((Kd.kids t).drop (k + 1))
  rw [List.take_append_drop] at e2
  simp only [cntK] at h2
  omega

set_option maxRecDepth 100000 in
set_option maxHeartbeats 1000000 in
theorem walkK_step (n : Nat) (hn : WalkKSaid n) : WalkKSaid (n + 1) := by
  intro S t c0 c1 c2 d p pb mb ab w ht hB hcap hp0 hp1 hd1 hd7

  obtain ⟨rfl, -, h3, h4⟩ := ht
  obtain ⟨na, nc, rfl, -, -, -⟩ := id h3
  obtain ⟨ka, kc, rfl, hlen, -⟩ := id h4
  unfold maxLen at hlen
  have hlt := hcap.parts.lt
  generalize hs : Kd.sort t = s at *
  have hb0 := (Below.refl w.heap.size w).alloc (Nat.le_refl _) (.cells #[.int .i64 s, .slice na (Kd.names t).length nc, .slice ka (Kd.kids t).length kc] 70)
  have hn0 : Near pb w (w.alloc (.cells #[.int .i64 s, .slice na (Kd.names t).length nc, .slice ka (Kd.kids t).length kc] 70)) := Near.of_below hb0
  have h3' := h3.keep (hn0.same hB) (fun _ h => h)
  have HC : Hid (Calls Tryz.prog 129 _ _ _) := accK_any S s (Kd.names t) na ka nc (Kd.kids t).length kc pb mb ab d p _ h3' (fun b hb => by have := hB b hb; simp; omega) (hcap.keep hn0 (hcap.parts.keep hb0)) hp0 hp1
  unfold clK
  go_enter Tryz.func128, Tryz.ntmps128
  go_wp2_with fail
  refine HC.out.mono ?_
  rintro e w1 ⟨rfl, hp2, hn1⟩
  have hn2 := hn0.trans hn1
  have hcap2 := hcap.keep hn2 hp2
  have hz2 := hn2.size
  have hz1 : w.heap.size < w1.heap.size := by have := hn1.size; simp at this; omega
  have k0 : w1.cell? ⟨w.heap.size, 0, none⟩ = some (.int .i64 s) := hn1.cell (by simp [go_sem]) (by omega)
  have k1 : w1.cell? ⟨w.heap.size, 1, none⟩ = some (.slice na (Kd.names t).length nc) := hn1.cell (by simp [go_sem]) (by omega)
  have k2 : w1.cell? ⟨w.heap.size, 2, none⟩ = some (.slice ka (Kd.kids t).length kc) := hn1.cell (by simp [go_sem]) (by omega)
  have h4' := h4.keepK (hn2.same hB) (fun _ h => h)
  clear HC hn0 hb0 h3' hn1 h3 h4
  generalize hok : (decide (p + 1 ≤ 40) && decide (d ≤ 6) && aloneKF s (Kd.names t) (Kd.kids t).length) = ok
  cases ok with
  | false =>
    have HP : Hid (WalkKPost (n + 1) t d p pb w (.returned (.bool false)) w1) := by
      refine ⟨hn2, false, rfl, fun h => (by cases h), fun _ => ?_⟩
      rintro ⟨hg, hc⟩
      simp only [goodK, Bool.and_eq_true, decide_eq_true_eq] at hg
      have ha : aloneKF s (Kd.names t) (Kd.kids t).length = true := by rw [← hs]; exact hg.1.2
      have : p + 1 ≤ 40 := by simp only [cntK] at hc; omega
      rw [ha, decide_eq_true hg.1.1, decide_eq_true this] at hok
      cases hok
    clear hok hs
    go_wp2_with fail
    go_ret
    exact HP.out
  | true =>
    simp only [Bool.and_eq_true, decide_eq_true_eq] at hok
    have HAL : Hid ((decide (d ≤ 6) && aloneK (show Kd (K n) from t)) = true) := by show (_ && aloneKF (Kd.sort t) _ _) = _; rw [hs, hok.2, decide_eq_true hok.1.2]; rfl
    obtain ⟨⟨ho1, ho2⟩, -⟩ := hok
    clear hs
    go_wp2_with fail
    refine (kidsK_any _ _ _ ⟨_, _, _, rfl⟩ _).mono ?_
    rintro e w2 ⟨rfl, hb2⟩
    have hn3 : Near pb w w2 := hn2.trans (Near.of_below hb2)
    have hp3 : Prt w2 pb (p + 1) := hp2.keep hb2
    have hz3 := hb2.size
    have h5 := h4'.keepK ((Near.of_below (bb := pb) hb2).same (fun b hb => by have := hB b hb; omega)) (fun _ h => h)
    clear h4' hb2 hcap2 hn2 hp2 k0 k1 k2
    obtain ⟨_, _, hkv, -, hkids⟩ := h5
    cases hkv
    go_wp2_with fail
    go_loopw [18] (fun i wr => ∃ k : Nat, k ≤ (Kd.kids t).length ∧ i = .int .i64 k ∧ Near pb w2 wr ∧ Prt wr pb (p + 1 + (sumL (fun x => cntK n x) ((Kd.kids t).take k) : Int)) ∧
        p + 1 + (sumL (fun x => cntK n x) ((Kd.kids t).take k) : Int) ≤ 40 ∧ ((Kd.kids t).take k).all (fun x => goodK n x (d + 1)) = true) (fun i _ => (Kd.kids t).length - (intOf i).toNat)
    case atStart => exact ⟨0, Nat.zero_le _, rfl, Near.refl _ _, by simpa [sumL] using hp3, by simpa [sumL] using ho1, by simp⟩
    case round =>
      obtain ⟨k, hk, rfl, hnr, hpr, hfew, hall⟩ := hrel
      have HALL := hidF hall
      clear hall
      have hzr := hnr.size
      have hn4 := hn3.trans hnr
      have hltr := hpr.lt
      by_cases hlt : k < (Kd.kids t).length
      · obtain ⟨b, off, rfl, hbB, hcell⟩ := hkids (by intro h; rw [h] at hlt; simp at hlt)
        obtain ⟨x0, x1, x2, e0, e1, e2, hr⟩ := hcell k hlt
        have hbb := hB b hbB
        have f0 := hnr.cell e0 hbb.2
        have f1 := hnr.cell e1 hbb.2
        have f2 := hnr.cell e2 hbb.2
        have q := hr.keep (hnr.same (fun b hb => by have := hB b hb; omega)) (fun _ h => h)
        obtain ⟨y0, ya, yl, yc, za, zl, zc, rfl, rfl, rfl⟩ := q.shape
        clear hkids hcell e0 e1 e2 hr
        have hb5 := (Below.refl wr.heap.size wr).alloc (Nat.le_refl _) (.cells #[.int .i64 y0, .slice ya yl yc, .slice za zl zc] 70)
        have hn5 : Near pb wr (wr.alloc (.cells #[.int .i64 y0, .slice ya yl yc, .slice za zl zc] 70)) := Near.of_below hb5
        have q5 := q.keep (hn5.same (fun b hb => by have := hB b hb; omega)) (fun _ h => h)
        have hcap5 := hcap.keep (hn4.trans hn5) (hpr.keep hb5)
        have HC : Hid (Calls Tryz.prog 128 _ _ _) := hn S (Kd.kids t)[k] _ _ _ (d + 1) _ pb mb ab _ q5 (fun b hb => by have := hB b hb; simp; omega) hcap5 (by omega) hfew (by omega) (by omega)
        have HBad := @walkK_bad n t d p k hlt
        have HSum : Hid (sumL (fun x => cntK n x) ((Kd.kids t).take (k + 1)) = sumL (fun x => cntK n x) ((Kd.kids t).take k) + cntK n (Kd.kids t)[k]) := sumL_take_succ _ _ _ hlt
        clear q q5 hcap5 hb5
        unfold clK at HC
        go_wp2_with fail
        refine HC.out.mono ?_
        rintro e w3 ⟨hn6, r, rfl, hyes, hno⟩
        have hn7 := hnr.trans (hn5.trans hn6)
        cases r with
        | false =>
          have HP : Hid (WalkKPost (n + 1) t d p pb w (.returned (.bool false)) w3) := ⟨hn3.trans hn7, false, rfl, fun h => (by cases h), fun _ => HBad (hno rfl)⟩
          clear HBad hno hyes HSum HALL hn6 hn7 hn5 hn4
          go_wp2_with fail
          go_ret
          exact HP.out
        | true =>
          obtain ⟨hg, hc, hp6⟩ := hyes rfl
          have HR : Hid (Near pb w2 w3 ∧ Prt w3 pb (p + 1 + (sumL (fun x => cntK n x) ((Kd.kids t).take (k + 1)) : Int)) ∧ p + 1 + (sumL (fun x => cntK n x) ((Kd.kids t).take (k + 1)) : Int) ≤ 40 ∧ ((Kd.kids t).take (k + 1)).all (fun x => goodK n x (d + 1)) = true) := by
            refine ⟨hn7, ?_, ?_, all_take_kidK k hlt HALL.out hg⟩
            · rw [HSum.out, show p + 1 + ((sumL (fun x => cntK n x) ((Kd.kids t).take k) + cntK n (Kd.kids t)[k] : Nat) : Int) = p + 1 + (sumL (fun x => cntK n x) ((Kd.kids t).take k) : Int) + (cntK n (Kd.kids t)[k] : Int) by omega]
              exact hp6
            · rw [HSum.out]; omega
          clear HBad hno hyes HSum HALL hn6 hn7 hn5 hn4 hg hc hp6 hpr hfew
          go_wp2_with fail
          go_roundw
          case rel => exact ⟨k + 1, by omega, by go_num, HR.out.1, HR.out.2.1, HR.out.2.2.1, HR.out.2.2.2⟩
          case measure => simp [intOf]; omega
      · have hkl : k = (Kd.kids t).length := by omega
        have HP : Hid (WalkKPost (n + 1) t d p pb w (.returned (.bool true)) wr) := by
          have h1 := HALL.out
          rw [hkl, List.take_length] at h1 hpr hfew
          have e : p + 1 + (sumL (fun x => cntK n x) (Kd.kids t) : Int) = p + (cntK (n + 1) t : Int) := by simp only [cntK]; omega
          rw [e] at hpr hfew
          exact ⟨hn4, true, rfl, fun _ => ⟨by have := HAL.out; simp only [goodK, this, h1, Bool.and_self], hfew, hpr⟩, fun h => (by cases h)⟩
        clear hkl hkids HALL hn4 hpr hfew
        go_wp2_with fail
        go_ret
        exact HP.out

theorem walkK_any : ∀ n, WalkKSaid n := by
  intro n
  induction n with
  | zero => intro S t c0 c1 c2 d p pb mb ab w ht; exact ht.elim
  | succ n ih => exact walkK_step n ih

set_option maxRecDepth 100000 in
set_option maxHeartbeats 1000000 in
theorem isOkK_any (n : Nat) (S : Nat → Prop) (t : K n) (c0 c1 c2 : Value) (w : World) (ht : KindIn S w n t c0 c1 c2) (hB : ∀ b, S b → b < w.heap.size) :
    Calls Tryz.prog 113 #[.agg #[c0, c1, c2], .int .i64 40, .func (.func 114) #[] #[]] w fun e w' => e = .returned (.bool (okK n t)) ∧ Below w.heap.size w w' := by
  have hmf : ∀ (fn : Fn) (first cap : Array Value) (w : World), (Instr.makeFunc fn first cap).run Tryz.prog w = .ok (.func fn first cap) w := fun _ _ _ _ => rfl
  obtain ⟨x0, xa, xl, xc, ya, yl, yc, rfl, rfl, rfl⟩ := ht.shape
  have hb : Below w.heap.size w ((((w.alloc (.cells #[.int .i64 x0, .slice xa xl xc, .slice ya yl yc] 70)).alloc (.cells #[.int .i64 40] 3)).alloc (.cells #[.func (.func 114) #[] #[]] 86)).alloc (.cells #[.int .i64 0] 3)) :=
    ((((Below.refl _ _).alloc (Nat.le_refl _) _).alloc (by simp) _).alloc (by simp; omega) _).alloc (by simp; omega) _
  have ht' := ht.keep (same_below hb hB) (fun _ h => h)
  have HC : Hid (Calls Tryz.prog 128 _ _ _) := walkK_any n S t _ _ _ 1 0 (w.heap.size + 1 + 1 + 1) (w.heap.size + 1) (w.heap.size + 1 + 1) _ ht' (fun b hb => by have := hB b hb; simp; omega)
    ⟨by rw [show w.heap.size + 1 + 1 + 1 = (((w.alloc (.cells #[.int .i64 x0, .slice xa xl xc, .slice ya yl yc] 70)).alloc (.cells #[.int .i64 40] 3)).alloc (.cells #[.func (.func 114) #[] #[]] 86)).heap.size by simp]; exact Prt.new _ 0,
      by simp [go_sem], by simp [go_sem], by omega, by omega⟩ (by omega) (by omega) (by omega) (by omega)
  unfold clK at HC
  clear ht ht'
  go_enter Tryz.func113, Tryz.ntmps113
  go_wp2_with fail
  refine HC.out.mono ?_
  rintro e w1 ⟨hn, r, rfl, hyes, hno⟩
  have hb1 : Below w.heap.size w w1 := hb.trans (hn.below (by omega) (by simp; omega))
  have hr : r = okK n t := by
    cases r with
    | true =>
      obtain ⟨h1, h2, -⟩ := hyes rfl
      unfold okK; rw [h1, decide_eq_true (by omega)]; rfl
    | false =>
      symm
      rw [Bool.eq_false_iff]
      intro h
      simp only [okK, Bool.and_eq_true, decide_eq_true_eq] at h
      exact hno rfl ⟨h.1, by omega⟩
  clear hyes hno hn hb HC
  go_wp2_with fail
  go_ret
  exact ⟨rfl, hb1⟩

set_option maxRecDepth 100000 in
set_option maxHeartbeats 400000 in
theorem implKOk_any (n : Nat) (S : Nat → Prop) (t : K n) (c0 c1 c2 : Value) (w : World) (ht : KindIn S w n t c0 c1 c2) (hB : ∀ b, S b → b < w.heap.size) :
    Calls Tryz.prog 96 #[.agg #[c0, c1, c2]] w fun e w' => e = .returned (.bool (okK n t)) ∧ Below w.heap.size w w' := by
  obtain ⟨x0, xa, xl, xc, ya, yl, yc, rfl, rfl, rfl⟩ := ht.shape
  have hb0 := (Below.refl w.heap.size w).alloc (Nat.le_refl _) (.cells #[.int .i64 x0, .slice xa xl xc, .slice ya yl yc] 70)
  obtain ⟨ht0, hB0⟩ := ht.step hB hb0
  have HC : Hid (Calls Tryz.prog 113 _ _ _) := isOkK_any n S t _ _ _ _ ht0 hB0
  clear ht ht0
  go_enter Tryz.func96, Tryz.ntmps96
  go_wp2_with fail
  refine HC.out.mono ?_
  rintro e w1 ⟨rfl, hb1⟩
  have hb2 := below_step hb0 (by simp) hb1
  clear hb0 hb1 HC
  go_wp2_with fail
  go_ret
  exact ⟨rfl, hb2⟩

end Go.Proofs.YtlinplghgamgbaaGreatDoor

/-
  Plain mathematics: the first tree of a schema.
-/
namespace Go.Proofs.YtlinplghgamgbaaGreatDoor
open Go.RowKit

theorem names_of_other {n : Nat} {k : K (n + 1)} {d : Int} (h : goodK (n + 1) k d = true) (h5 : ¬ Kd.sort k = 5) : Kd.names k = [] := by
  simp only [goodK, Bool.and_eq_true] at h
  have ha : aloneKF (Kd.sort k) (Kd.names k) (Kd.kids k).length = true := h.1.2
  unfold aloneKF at ha
  rw [if_neg h5] at ha
  have e : ((Kd.names k).length : Int) = 0 := by
    split at ha
    · simp at ha; simp [ha.1]
    split at ha
    · simp at ha; simp [ha.1]
    split at ha
    · simp at ha; simp [ha.1]
    split at ha
    · simp at ha; simp [ha.1]
    split at ha
    · simp at ha; simp [ha.1]
    · cases ha
  exact List.eq_nil_of_length_eq_zero (by omega)

theorem form_of {n : Nat} {k : K (n + 1)} {d : Int} (h : goodK (n + 1) k d = true) (h5 : Kd.sort k = 5) : (Kd.names k).length = (Kd.kids k).length ∧ riseB (Kd.names k) = true := by
  simp only [goodK, Bool.and_eq_true] at h
  have ha : aloneKF (Kd.sort k) (Kd.names k) (Kd.kids k).length = true := h.1.2
  unfold aloneKF at ha
  rw [h5] at ha
  simp at ha
  exact ⟨by omega, ha.2⟩

theorem rise_short {l : List ByteArray} (h : riseB l = true) : ∀ s, s ∈ l → s.size ≤ 8 := by
  intro s hs
  obtain ⟨i, hi, rfl⟩ := List.getElem_of_mem hs
  unfold riseB riseTo at h
  have := List.all_eq_true.1 h i (List.mem_range.2 hi)
  simp only [riseAt, Bool.and_eq_true, nameB, decide_eq_true_eq] at this
  have h2 := this.1.1.1.2
  simpa [List.getD, hi] using h2

end Go.Proofs.YtlinplghgamgbaaGreatDoor

/-
  What the program's type switches over its inner trees answer.
-/
namespace Go.Proofs.YtlinplghgamgbaaGreatDoor
open Go.RowKit

theorem Tryz.yes_num (x : Value) (w : World) : (Instr.typeAssert (.iface 126 x) 108 126 true).run Tryz.prog w = .ok (.tuple #[x, .bool true]) w := by kernel_rfl
theorem Tryz.no_num_text (x : Value) (w : World) : (Instr.typeAssert (.iface 128 x) 108 126 true).run Tryz.prog w = .ok (.tuple #[.int .i64 0, .bool false]) w := by kernel_rfl
theorem Tryz.yes_text (x : Value) (w : World) : (Instr.typeAssert (.iface 128 x) 108 128 true).run Tryz.prog w = .ok (.tuple #[x, .bool true]) w := by kernel_rfl
theorem Tryz.no_num_flag (x : Value) (w : World) : (Instr.typeAssert (.iface 129 x) 108 126 true).run Tryz.prog w = .ok (.tuple #[.int .i64 0, .bool false]) w := by kernel_rfl
theorem Tryz.no_text_flag (x : Value) (w : World) : (Instr.typeAssert (.iface 129 x) 108 128 true).run Tryz.prog w = .ok (.tuple #[.string ByteArray.empty, .bool false]) w := by kernel_rfl
theorem Tryz.yes_flag (x : Value) (w : World) : (Instr.typeAssert (.iface 129 x) 108 129 true).run Tryz.prog w = .ok (.tuple #[x, .bool true]) w := by kernel_rfl
theorem Tryz.no_num_list (x : Value) (w : World) : (Instr.typeAssert (.iface 132 x) 108 126 true).run Tryz.prog w = .ok (.tuple #[.int .i64 0, .bool false]) w := by kernel_rfl
theorem Tryz.no_text_list (x : Value) (w : World) : (Instr.typeAssert (.iface 132 x) 108 128 true).run Tryz.prog w = .ok (.tuple #[.string ByteArray.empty, .bool false]) w := by kernel_rfl
theorem Tryz.no_flag_list (x : Value) (w : World) : (Instr.typeAssert (.iface 132 x) 108 129 true).run Tryz.prog w = .ok (.tuple #[.bool false, .bool false]) w := by kernel_rfl
theorem Tryz.yes_list (x : Value) (w : World) : (Instr.typeAssert (.iface 132 x) 108 132 true).run Tryz.prog w = .ok (.tuple #[x, .bool true]) w := by kernel_rfl
theorem Tryz.no_num_form (x : Value) (w : World) : (Instr.typeAssert (.iface 135 x) 108 126 true).run Tryz.prog w = .ok (.tuple #[.int .i64 0, .bool false]) w := by kernel_rfl
theorem Tryz.no_text_form (x : Value) (w : World) : (Instr.typeAssert (.iface 135 x) 108 128 true).run Tryz.prog w = .ok (.tuple #[.string ByteArray.empty, .bool false]) w := by kernel_rfl
theorem Tryz.no_flag_form (x : Value) (w : World) : (Instr.typeAssert (.iface 135 x) 108 129 true).run Tryz.prog w = .ok (.tuple #[.bool false, .bool false]) w := by kernel_rfl
theorem Tryz.no_list_form (x : Value) (w : World) : (Instr.typeAssert (.iface 135 x) 108 132 true).run Tryz.prog w = .ok (.tuple #[.slice none 0 0, .bool false]) w := by kernel_rfl
theorem Tryz.yes_form (x : Value) (w : World) : (Instr.typeAssert (.iface 135 x) 108 135 true).run Tryz.prog w = .ok (.tuple #[x, .bool true]) w := by kernel_rfl
theorem Tryz.no_num_maybe (x : Value) (w : World) : (Instr.typeAssert (.iface 137 x) 108 126 true).run Tryz.prog w = .ok (.tuple #[.int .i64 0, .bool false]) w := by kernel_rfl
theorem Tryz.no_text_maybe (x : Value) (w : World) : (Instr.typeAssert (.iface 137 x) 108 128 true).run Tryz.prog w = .ok (.tuple #[.string ByteArray.empty, .bool false]) w := by kernel_rfl
theorem Tryz.no_flag_maybe (x : Value) (w : World) : (Instr.typeAssert (.iface 137 x) 108 129 true).run Tryz.prog w = .ok (.tuple #[.bool false, .bool false]) w := by kernel_rfl
theorem Tryz.no_list_maybe (x : Value) (w : World) : (Instr.typeAssert (.iface 137 x) 108 132 true).run Tryz.prog w = .ok (.tuple #[.slice none 0 0, .bool false]) w := by kernel_rfl
theorem Tryz.no_form_maybe (x : Value) (w : World) : (Instr.typeAssert (.iface 137 x) 108 135 true).run Tryz.prog w = .ok (.tuple #[.agg #[.slice none 0 0, .slice none 0 0], .bool false]) w := by kernel_rfl
theorem Tryz.yes_maybe (x : Value) (w : World) : (Instr.typeAssert (.iface 137 x) 108 137 true).run Tryz.prog w = .ok (.tuple #[x, .bool true]) w := by kernel_rfl

end Go.Proofs.YtlinplghgamgbaaGreatDoor

/-
  What the laws do with nodes of upcasters: as with trees (printed by mkn.py).
-/
namespace Go.Proofs.YtlinplghgamgbaaGreatDoor
open Go.RowKit

/-- szTree at trees of at most n levels. -/
def SzSaidN (n : Nat) : Prop := ∀ (S : Nat → Prop) (t : T n) (c0 c1 c2 c3 c4 : Value) (left : Int) (w : World), TreeIn S w n t c0 c1 c2 c3 c4 → (∀ b, S b → b < w.heap.size) → -1 ≤ left → left ≤ 1048576 →
  Calls Tryz.prog 6 #[.agg #[c0, c1, c2, c3, c4], .int .i64 left] w fun e w' => e = .returned (.int .i64 (leftB (szT n t) left)) ∧ Below w.heap.size w w'

set_option maxHeartbeats 400000 in
theorem szNodeS_any (n : Nat) (hn : SzSaidN n) (S : Nat → Prop) (l : List (T n)) (v : Value) (left : Int) (w : World) (hl : RowIn S w (TreeIn S w n) l v) (hB : ∀ b, S b → b < w.heap.size) (h0 : -1 ≤ left) (h1 : left ≤ 1048576) :
    Calls Tryz.prog 16 #[v, .int .i64 left] w fun e w' => e = .returned (.int .i64 (leftB (sumL (fun k => szT n k + 1) l) left)) ∧ Below w.heap.size w w' := by
  obtain ⟨ao, cap, rfl, hlen, hc⟩ := hl
  unfold maxLen at hlen
  by_cases hneg : left - l.length < 0
  · go_enter Tryz.func16, Tryz.ntmps16
    go_wp2
    go_ret
    exact ⟨ret_int (by rw [leftB, sumL_one, if_neg (by omega)]), Below.refl _ _⟩
  go_enter Tryz.func16, Tryz.ntmps16
  go_wp2
  go_loopw [1, 5] (fun a i wr => ∃ k : Nat, k ≤ l.length ∧ i = .int .i64 k ∧ a = .int .i64 (leftK (szT n) l k left) ∧ 0 ≤ leftK (szT n) l k left ∧ Below w.heap.size w wr) (fun _ i _ => l.length - (intOf i).toNat)
  case atStart =>
    have e : leftK (szT n) l 0 left = left - l.length := by simp [leftK, leftB, sumL]; omega
    exact ⟨0, Nat.zero_le _, rfl, by rw [e], by rw [e]; omega, Below.refl _ _⟩
  case round =>
    obtain ⟨k, hk, rfl, rfl, hpos, hbel⟩ := hrel
    have hub := (leftB_le (l.length + sumL (szT n) (l.take k)) left h1).2
    change leftK (szT n) l k left ≤ 1048576 at hub
    by_cases hlt : k < l.length
    · obtain ⟨b, off, rfl, hbB, hcell⟩ := hc (by intro h; rw [h] at hlt; simp at hlt)
      obtain ⟨d0, d1, d2, d3, d4, e0, e1, e2, e3, e4, hr⟩ := hcell k hlt
      have f0 := (hbel.cell (p := ⟨b, off + k * 5, none⟩) (hB b hbB)).trans e0
      have f1 := (hbel.cell (p := ⟨b, off + k * 5 + 1, none⟩) (hB b hbB)).trans e1
      have f2 := (hbel.cell (p := ⟨b, off + k * 5 + 2, none⟩) (hB b hbB)).trans e2
      have f3 := (hbel.cell (p := ⟨b, off + k * 5 + 3, none⟩) (hB b hbB)).trans e3
      have f4 := (hbel.cell (p := ⟨b, off + k * 5 + 4, none⟩) (hB b hbB)).trans e4
      clear hc hcell e0 e1 e2 e3 e4
      have hr' := hr.keep (same_below hbel hB) (fun _ h => h)
      have hsz := hbel.size
      have HL : Hid (leftK (szT n) l (k + 1) left = leftB (szT n l[k]) (leftK (szT n) l k left)) := leftK_succ _ _ _ _ hlt
      have HM : Hid (leftK (szT n) l (k + 1) left = -1 → leftB (sumL (fun k => szT n k + 1) l) left = -1) := by
        intro hm
        have := sumL_append (szT n) (l.take (k + 1)) (l.drop (k + 1))
        rw [List.take_append_drop] at this
        rw [sumL_one]
        unfold leftK leftB at hm
        unfold leftB
        rw [if_neg]
        intro hle
        rw [if_pos (by omega)] at hm
        omega
      clear hr
      go_wp2_with fail
      refine (hn S l[k] d0 d1 d2 d3 d4 _ wr hr' (fun b hb => Nat.lt_of_lt_of_le (hB b hb) hsz) (by omega) hub).mono ?_
      rintro e w1 ⟨rfl, hb1⟩
      rw [← HL.out]
      have hbd := leftB_le (szT n l[k]) (leftK (szT n) l k left) hub
      rw [← HL.out] at hbd
      have hbel1 := hbel.trans (hb1.mono hsz)
      clear HL hb1 f0 f1 f2 f3 f4 hr' hbel
      generalize hm : leftK (szT n) l (k + 1) left = m at *
      have Hm := hm
      have HM2 := hidF HM
      have HE := hidF hm
      clear HM hm Hm
      go_wp2_with fail
      · go_ret
        refine ⟨ret_int ?_, hbel1⟩
        rw [HM2.out (by omega)]
      · go_roundw
        case rel => exact ⟨k + 1, by omega, by go_num, by rw [HE.out], by rw [HE.out]; omega, hbel1⟩
        case measure => simp [intOf]; omega
    · have hkl : k = l.length := by omega
      have HE : Hid (leftK (szT n) l k left = leftB (sumL (fun k => szT n k + 1) l) left) := by
        show _ = _
        unfold leftK; rw [sumL_one, hkl, List.take_length]
      clear hkl hc
      go_wp2_with fail
      go_ret
      exact ⟨ret_int HE.out, hbel⟩

set_option maxHeartbeats 400000 in
theorem szNode_step (n : Nat) (hn : SzSaidN n) : SzSaidN (n + 1) := by
  intro S t c0 c1 c2 c3 c4 left w ht hB h0 h1
  obtain ⟨rfl, rfl, rfl, hs, -, -, h3, h4⟩ := ht
  have hT : szT (n + 1) t = (Nd.text t).size + szN (Nd.names t) + sumL (fun k => szT n k + 1) (Nd.kids t) := rfl
  have HT := hidF hT
  clear hT
  unfold maxLen at hs
  by_cases hneg : left - (Nd.text t).size < 0
  · go_enter Tryz.func6, Tryz.ntmps6
    go_wp2_with fail
    go_ret
    exact ⟨ret_int (by rw [leftB, HT.out, if_neg (by omega)]), (Below.refl _ _).alloc (Nat.le_refl _) _⟩
  have hb0 : Below w.heap.size w (w.alloc (.cells #[.int .i64 (Nd.sort t), .int .i64 (Nd.num t), .string (Nd.text t), c3, c4] 25)) := (Below.refl _ _).alloc (Nat.le_refl _) _
  have h3' := h3.keep (same_below hb0 hB) (fun _ h => h)
  have h4' := h4.keepT (same_below hb0 hB) (fun _ h => h)
  have hbd := leftB_le (szN (Nd.names t)) (left - (Nd.text t).size) (by omega)
  have HA : Hid (leftB (szN (Nd.names t)) (left - (Nd.text t).size) = leftB ((Nd.text t).size + szN (Nd.names t)) left) := by
    show _ = _
    rw [← leftB_add]; congr 1; rw [leftB, if_pos (by omega)]
  clear h3 h4
  go_enter Tryz.func6, Tryz.ntmps6
  go_wp2_with fail
  refine (szStringS_any S _ _ _ _ h3' (by omega) (by omega)).mono ?_
  rintro e w1 ⟨rfl, rfl⟩
  rw [HA.out]
  rw [HA.out] at hbd
  generalize hm : leftB ((Nd.text t).size + szN (Nd.names t)) left = m at *
  have HM := hidF hm
  clear hm HA
  by_cases hm0 : m < 0
  · go_wp2_with fail
    go_ret
    refine ⟨ret_int ?_, hb0⟩
    rw [HT.out, ← leftB_add, HM.out, leftB, if_neg (by omega)]
  · go_wp2_with fail
    refine (szNodeS_any n hn S _ _ _ _ h4' (fun b hb => by have := hB b hb; simp; omega) (by omega) (by omega)).mono ?_
    rintro e w1 ⟨rfl, hb1⟩
    have hb2 := below_step hb0 (by simp) hb1
    have hbd2 := leftB_le (sumL (fun k => szT n k + 1) (Nd.kids t)) m (by omega)
    have HF : Hid (leftB (sumL (fun k => szT n k + 1) (Nd.kids t)) m = leftB (szT (n + 1) t) left) := by
      show _ = _
      rw [HT.out, ← leftB_add, HM.out]
    clear hb0 hb1 h3' h4' HM HT
    rw [HF.out]
    rw [HF.out] at hbd2
    generalize hq : leftB (szT (n + 1) t) left = q at *
    have HQ := hidF hq
    clear hq HF
    go_wp2_with fail
    · go_ret
      exact ⟨ret_int (by rw [HQ.out]; omega), hb2⟩
    · go_ret
      exact ⟨ret_int HQ.out.symm, hb2⟩

theorem szNode_any : ∀ n, SzSaidN n := by
  intro n
  induction n with
  | zero => intro S t c0 c1 c2 c3 c4 left w ht; exact ht.elim
  | succ n ih => exact szNode_step n ih

end Go.Proofs.YtlinplghgamgbaaGreatDoor

/-
  The copies that the laws make: what toStringS, toTreeS and toTree answer.
-/
namespace Go.Proofs.YtlinplghgamgbaaGreatDoor
open Go.RowKit

theorem Tryz.info_str : (Tryz.prog.info? 9).map (fun i => (i.zero, i.size, i.bytes)) = some (some (.string ByteArray.empty), 1, 16) := by kernel_rfl

end Go.Proofs.YtlinplghgamgbaaGreatDoor

/-
  What the laws do with nodes of upcasters: as with trees (printed by mkn.py).
-/
namespace Go.Proofs.YtlinplghgamgbaaGreatDoor
open Go.RowKit

theorem Tryz.info_node : (Tryz.prog.info? 30).map (fun i => (i.zero, i.size, i.bytes)) = some (some (.agg #[.int .i64 0, .int .i64 0, .string ByteArray.empty, .slice none 0 0, .slice none 0 0]), 5, 80) := by kernel_rfl

theorem make_nodes (n : Nat) (hn : n ≤ 1048576) (w : World) : (Instr.makeSlice 28 (.int .i64 (n : Int)) (.int .i64 (n : Int))).run Tryz.prog w =
    .ok (.slice (some ⟨w.heap.size, 0, none⟩) n n) (w.alloc (.cells (madeCells #[.int .i64 0, .int .i64 0, .string ByteArray.empty, .slice none 0 0, .slice none 0 0] (n * 5)) 30)) := by
  obtain ⟨i0, hi, hz0, hz1, hz2⟩ := info_parts Tryz.info_node
  have := run_make (P := Tryz.prog) w 28 30 i0 _ Tryz.underlying28 hi hz0 .i64 .i64 (n : Int) (n : Int) (by omega) (by omega) (by rw [hz2]; omega) (by omega)
  rw [hz1] at this
  simpa [Value.cells] using this

set_option maxHeartbeats 400000 in
theorem toStringS_cap (S : Nat → Prop) (l : List ByteArray) (v : Value) (w : World) (hl : StrsIn S w l v) (hB : ∀ b, S b → b < w.heap.size) (hsz : szN l ≤ 1048576) :
    Calls Tryz.prog 18 #[v] w fun e w' => ∃ v', e = .returned v' ∧ StrsIn (fun b => w.heap.size ≤ b ∧ b < w'.heap.size) w' l v' ∧ CapOk v' ∧ Below w.heap.size w w' := by
  obtain ⟨ao, cap, rfl, hlen, hs, hc⟩ := hl
  have hlN := szN_length l
  have hmk := run_make_row' (P := Tryz.prog) 22 9 (.string ByteArray.empty) 16 Tryz.underlying22 Tryz.info_str rfl .i64 .i64 l.length (by omega) (by omega)
  go_enter Tryz.func18, Tryz.ntmps18
  go_wp2
  go_loopw [4] (fun i wr => ∃ k : Nat, k ≤ l.length ∧ i = .int .i64 k ∧ wr.rowIs w.heap.size 9 l.length (fun j => if j < k then .string (l.getD j ByteArray.empty) else .string ByteArray.empty) ∧ Below w.heap.size w wr)
    (fun i _ => l.length - (intOf i).toNat)
  case atStart =>
    exact ⟨0, Nat.zero_le _, rfl, (World.rowIs_made _ _ _ _).congr (fun i _ => by simp), (Below.refl _ _).alloc (Nat.le_refl _) _⟩
  case round =>
    obtain ⟨k, hk, rfl, hrow, hbel⟩ := hrel
    by_cases hlt : k < l.length
    · obtain ⟨b, off, rfl, hbB, hcell⟩ := hc (by intro h; rw [h] at hlt; simp at hlt)
      have f0 := (hbel.cell (p := ⟨b, off + k, none⟩) (hB b hbB)).trans (hcell k hlt)
      have f1 := hrow.cell hlt
      have f2 := hrow.frozen k
      have HR : Hid ((wr.setCell ⟨w.heap.size, k, none⟩ (.string l[k])).rowIs w.heap.size 9 l.length (fun j => if j < k + 1 then .string (l.getD j ByteArray.empty) else .string ByteArray.empty)) := by
        refine (hrow.set k (.string l[k])).congr fun i hi => ?_
        by_cases h1 : i = k
        · subst h1; simp [hlt]
        · by_cases h2 : i < k
          · rw [if_neg h1, if_pos h2, if_pos (by omega)]
          · rw [if_neg h1, if_neg h2, if_neg (by omega)]
      have HB : Hid (Below w.heap.size w (wr.setCell ⟨w.heap.size, k, none⟩ (.string l[k]))) := hbel.setCell (Nat.le_refl _) _
      clear hc hcell hrow hbel hmk
      go_wp2
      go_roundw
      case rel => exact ⟨k + 1, by omega, by go_num, HR.out, HB.out⟩
      case measure => simp [intOf]; omega
    · have hkl : k = l.length := by omega
      have HF : Hid (StrsIn (fun b => w.heap.size ≤ b ∧ b < wr.heap.size) wr l (.slice (some ⟨w.heap.size, 0, none⟩) l.length l.length)) := by
        refine ⟨_, _, rfl, hlen, hs, fun _ => ⟨w.heap.size, 0, rfl, ⟨Nat.le_refl _, hrow.lt⟩, fun i hi => ?_⟩⟩
        have := hrow.cell hi
        rw [if_pos (by omega)] at this
        simpa [List.getD, hi] using this
      clear hkl hc hs hrow hmk
      go_wp2
      go_ret
      exact ⟨_, rfl, HF.out, ⟨_, _, _, rfl, Nat.le_refl _⟩, hbel⟩

/-- toTree at trees of at most n levels. -/
def ToSaidN (n : Nat) : Prop := ∀ (S : Nat → Prop) (t : T n) (c0 c1 c2 c3 c4 : Value) (w : World), TreeIn S w n t c0 c1 c2 c3 c4 → (∀ b, S b → b < w.heap.size) → szT n t ≤ 1048576 →
  Calls Tryz.prog 8 #[.agg #[c0, c1, c2, c3, c4]] w fun e w' => ∃ d0 d1 d2 d3 d4, e = .returned (.agg #[d0, d1, d2, d3, d4]) ∧ NodeIn (fun b => w.heap.size ≤ b ∧ b < w'.heap.size) w' n t d0 d1 d2 d3 d4 ∧ Below w.heap.size w w'

set_option maxHeartbeats 400000 in
theorem toNodeS_any (n : Nat) (hn : ToSaidN n) (S : Nat → Prop) (l : List (T n)) (v : Value) (w : World) (hl : RowIn S w (TreeIn S w n) l v) (hB : ∀ b, S b → b < w.heap.size) (hsz : sumL (fun k => szT n k + 1) l ≤ 1048576) :
    Calls Tryz.prog 19 #[v] w fun e w' => ∃ v', e = .returned v' ∧ RowIn (fun b => w.heap.size ≤ b ∧ b < w'.heap.size) w' (NodeIn (fun b => w.heap.size ≤ b ∧ b < w'.heap.size) w' n) l v' ∧ CapOk v' ∧ Below w.heap.size w w' := by
  obtain ⟨ao, cap, rfl, hlen, hc⟩ := hl
  have hlN := sumL_length (szT n) l
  have hmk := make_nodes l.length (by omega)
  go_enter Tryz.func19, Tryz.ntmps19
  go_wp2_with fail
  go_loopw [4] (fun i wr => ∃ (k : Nat) (F : Nat → Value), k ≤ l.length ∧ i = .int .i64 k ∧ wr.rowIs w.heap.size 30 (l.length * 5) F ∧ Below w.heap.size w wr ∧
      ∀ j (h : j < l.length), j < k → NodeIn (fun b => w.heap.size < b ∧ b < wr.heap.size) wr n l[j] (F (j * 5)) (F (j * 5 + 1)) (F (j * 5 + 2)) (F (j * 5 + 3)) (F (j * 5 + 4)))
    (fun i _ => l.length - (intOf i).toNat)
  case atStart =>
    obtain ⟨F, hF⟩ := rowIs_made_any w #[.int .i64 0, .int .i64 0, .string ByteArray.empty, .slice none 0 0, .slice none 0 0] (l.length * 5) 30
    exact ⟨0, F, Nat.zero_le _, rfl, hF, (Below.refl _ _).alloc (Nat.le_refl _) _, fun j _ h => absurd h (Nat.not_lt_zero _)⟩
  case round =>
    obtain ⟨k, F, hk, rfl, hrow, hbel, hdone⟩ := hrel
    by_cases hlt : k < l.length
    · obtain ⟨b, off, rfl, hbB, hcell⟩ := hc (by intro h; rw [h] at hlt; simp at hlt)
      obtain ⟨d0, d1, d2, d3, d4, e0, e1, e2, e3, e4, hr⟩ := hcell k hlt
      have f0 := (hbel.cell (p := ⟨b, off + k * 5, none⟩) (hB b hbB)).trans e0
      have f1 := (hbel.cell (p := ⟨b, off + k * 5 + 1, none⟩) (hB b hbB)).trans e1
      have f2 := (hbel.cell (p := ⟨b, off + k * 5 + 2, none⟩) (hB b hbB)).trans e2
      have f3 := (hbel.cell (p := ⟨b, off + k * 5 + 3, none⟩) (hB b hbB)).trans e3
      have f4 := (hbel.cell (p := ⟨b, off + k * 5 + 4, none⟩) (hB b hbB)).trans e4
      clear hc hcell e0 e1 e2 e3 e4
      have hr' := hr.keep (same_below hbel hB) (fun _ h => h)
      have hsz' := hbel.size
      have hone := sumL_mono (fun k => szT n k + 1) l l[k] (List.getElem_mem hlt)
      clear hr hmk
      go_wp2_with fail
      refine (hn S l[k] d0 d1 d2 d3 d4 wr hr' (fun b hb => Nat.lt_of_lt_of_le (hB b hb) hsz') (by omega)).mono ?_
      rintro e w1 ⟨g0, g1, g2, g3, g4, rfl, hin, hb1⟩
      have hz1 := hb1.size
      have hlt1 := hrow.lt
      have hrow1 : w1.rowIs w.heap.size 30 (l.length * 5) F := hrow.of_block (hb1.block _ hlt1)
      have q0 := hrow1.cell (i := k * 5) (by omega)
      have q1 := hrow1.cell (i := k * 5 + 1) (by omega)
      have q2 := hrow1.cell (i := k * 5 + 2) (by omega)
      have q3 := hrow1.cell (i := k * 5 + 3) (by omega)
      have q4 := hrow1.cell (i := k * 5 + 4) (by omega)
      have r0 := hrow1.frozen (k * 5)
      have r1 := hrow1.frozen (k * 5 + 1)
      have r2 := hrow1.frozen (k * 5 + 2)
      have r3 := hrow1.frozen (k * 5 + 3)
      have r4 := hrow1.frozen (k * 5 + 4)
      obtain ⟨x0, x1, x2, xa, xl, xc, ya, yl, yc, rfl, rfl, rfl, rfl, rfl⟩ := hin.shape
      have HR : Hid (∀ j (h : j < l.length), j < k + 1 → NodeIn (fun b => w.heap.size < b ∧ b < (put5 w1 w.heap.size (k * 5) (.int .i64 x0) (.int .i64 x1) (.string x2) (.slice xa xl xc) (.slice ya yl yc)).heap.size)
          (put5 w1 w.heap.size (k * 5) (.int .i64 x0) (.int .i64 x1) (.string x2) (.slice xa xl xc) (.slice ya yl yc)) n l[j]
          (put5F (k * 5) F (.int .i64 x0) (.int .i64 x1) (.string x2) (.slice xa xl xc) (.slice ya yl yc) (j * 5)) (put5F (k * 5) F (.int .i64 x0) (.int .i64 x1) (.string x2) (.slice xa xl xc) (.slice ya yl yc) (j * 5 + 1))
          (put5F (k * 5) F (.int .i64 x0) (.int .i64 x1) (.string x2) (.slice xa xl xc) (.slice ya yl yc) (j * 5 + 2)) (put5F (k * 5) F (.int .i64 x0) (.int .i64 x1) (.string x2) (.slice xa xl xc) (.slice ya yl yc) (j * 5 + 3))
          (put5F (k * 5) F (.int .i64 x0) (.int .i64 x1) (.string x2) (.slice xa xl xc) (.slice ya yl yc) (j * 5 + 4))) := by
        intro j hj hjk
        by_cases hjk' : j < k
        · rw [put5F_other _ _ _ _ _ _ _ (j * 5) (by omega), put5F_other _ _ _ _ _ _ _ (j * 5 + 1) (by omega), put5F_other _ _ _ _ _ _ _ (j * 5 + 2) (by omega), put5F_other _ _ _ _ _ _ _ (j * 5 + 3) (by omega), put5F_other _ _ _ _ _ _ _ (j * 5 + 4) (by omega)]
          refine (hdone j hj hjk').keep (fun b hb => ?_) (fun b hb => ?_)
          · rw [put5_other (by omega)]; exact hb1.block b hb.2
          · rw [put5_size]; omega
        · have : j = k := by omega
          subst this
          rw [put5F_0, put5F_1, put5F_2, put5F_3, put5F_4]
          refine hin.keep (fun b hb => ?_) (fun b hb => ?_)
          · rw [put5_other (by omega)]
          · rw [put5_size]; omega
      have HW := put5_row hrow1 (k * 5) (.int .i64 x0) (.int .i64 x1) (.string x2) (.slice xa xl xc) (.slice ya yl yc)
      have HB := put5_below (o := k * 5) (g0 := .int .i64 x0) (g1 := .int .i64 x1) (g2 := .string x2) (g3 := .slice xa xl xc) (g4 := .slice ya yl yc) (below_step hbel hsz' hb1) (Nat.le_refl _)
      have HA : Hid (_ ∧ _ ∧ _) := ⟨HW, HB, HR.out⟩
      clear HW HB HR hdone hrow hbel hb1 hin hn hrow1 f0 f1 f2 f3 f4 hr' hone
      go_wp2_with fail
      go_roundw
      case rel => exact ⟨k + 1, _, by omega, by go_num, HA.out.1, HA.out.2.1, HA.out.2.2⟩
      case measure => simp [intOf]; omega
    · have hkl : k = l.length := by omega
      have HF : Hid (RowIn (fun b => w.heap.size ≤ b ∧ b < wr.heap.size) wr (NodeIn (fun b => w.heap.size ≤ b ∧ b < wr.heap.size) wr n) l (.slice (some ⟨w.heap.size, 0, none⟩) l.length l.length)) := by
        refine ⟨_, _, rfl, hlen, fun _ => ⟨w.heap.size, 0, rfl, ⟨Nat.le_refl _, hrow.lt⟩, fun i hi => ?_⟩⟩
        refine ⟨_, _, _, _, _, ?_, ?_, ?_, ?_, ?_, (hdone i hi (by omega)).keep (fun _ _ => rfl) (fun b hb => ⟨by omega, hb.2⟩)⟩
        · simpa using hrow.cell (i := i * 5) (by omega)
        · simpa using hrow.cell (i := i * 5 + 1) (by omega)
        · simpa using hrow.cell (i := i * 5 + 2) (by omega)
        · simpa using hrow.cell (i := i * 5 + 3) (by omega)
        · simpa using hrow.cell (i := i * 5 + 4) (by omega)
      clear hkl hc hrow hmk hdone
      go_wp2_with fail
      go_ret
      exact ⟨_, rfl, HF.out, ⟨_, _, _, rfl, Nat.le_refl _⟩, hbel⟩

set_option maxHeartbeats 400000 in
theorem toNode_step (n : Nat) (hn : ToSaidN n) : ToSaidN (n + 1) := by
  intro S t c0 c1 c2 c3 c4 w ht hB hsz
  obtain ⟨rfl, rfl, rfl, hs, hw0, hw1, h3, h4⟩ := ht
  have hT : szT (n + 1) t = (Nd.text t).size + szN (Nd.names t) + sumL (fun k => szT n k + 1) (Nd.kids t) := rfl
  rw [hT] at hsz
  clear hT
  have hb3 : Below w.heap.size w (((w.alloc (.cells #[.int .i64 (Nd.sort t), .int .i64 (Nd.num t), .string (Nd.text t), c3, c4] 25)).alloc
      (.cells #[.int .i64 0, .int .i64 0, .string ⟨#[]⟩, .slice none 0 0, .slice none 0 0] 30)).alloc (.cells #[.int .i64 (Nd.sort t), .int .i64 (Nd.num t), .string (Nd.text t), .slice none 0 0, .slice none 0 0] 30)) :=
    (((Below.refl _ _).alloc (Nat.le_refl _) _).alloc (by simp) _).alloc (by simp; omega) _
  have h3' := h3.keep (same_below hb3 hB) (fun _ h => h)
  have HK : Hid (RowIn S _ (TreeIn S _ n) (Nd.kids t) c4) := h4.keepT (same_below hb3 hB) (fun _ h => h)
  obtain ⟨ka, kc, hk4, -⟩ := h4
  subst hk4
  clear h3
  go_enter Tryz.func8, Tryz.ntmps8
  go_wp2_with fail
  refine (toStringS_cap S _ _ _ h3' (fun b hb => by have := hB b hb; simp; omega) (by omega)).mono ?_
  rintro e w1 ⟨v3, rfl, hv3, hcap3, hb1⟩
  have HC3 := hidF hcap3
  clear hcap3
  have hz1 := hb1.size
  simp at hz1
  obtain ⟨hc, hf⟩ := bcell hb1
  obtain ⟨na, nc, rfl, -⟩ := id hv3
  have HV3 : Hid (StrsIn _ w1 (Nd.names t) (.slice na (Nd.names t).length nc)) := hv3
  have hbw1 := below_step hb3 (by simp; omega) hb1
  have HK1 : Hid (RowIn S w1 (TreeIn S w1 n) (Nd.kids t) _) := HK.out.keepT (same_below hb1 (fun b hb => by have := hB b hb; simp; omega)) (fun _ h => h)
  clear hv3 HK h3' hb3
  have hfz : w1.frozen? ⟨w.heap.size + 1 + 1, 3, none⟩ = false := by rw [hf _ _ (by simp)]; simp [go_sem]
  have hSame : Same S w1 (w1.setCell ⟨w.heap.size + 1 + 1, 3, none⟩ (.slice na (Nd.names t).length nc)) := fun b hb => Below.heap_setCell _ _ _ _ (by have := hB b hb; show b ≠ w.heap.size + 1 + 1; omega)
  have HK2 : Hid (RowIn S _ (TreeIn S _ n) (Nd.kids t) _) := HK1.out.keepT hSame (fun _ h => h)
  have hbw2 : Below w.heap.size w (w1.setCell ⟨w.heap.size + 1 + 1, 3, none⟩ (.slice na (Nd.names t).length nc)) := hbw1.setCell (by show w.heap.size ≤ w.heap.size + 1 + 1; omega) _
  clear HK1 hSame hbw1
  go_wp2_with fail
  refine (toNodeS_any n hn S _ _ _ HK2.out (fun b hb => by have := hB b hb; simp; omega) (by omega)).mono ?_
  rintro e w2 ⟨v4, rfl, hv4, hcap4, hb2⟩
  have HC4 := hidF hcap4
  clear hcap4
  have hz2 := hb2.size
  simp at hz2
  obtain ⟨hc2, hf2⟩ := bcell hb2
  obtain ⟨ma, mc, rfl, -⟩ := id hv4
  have HV4 : Hid (RowIn _ w2 (NodeIn _ w2 n) (Nd.kids t) (.slice ma (Nd.kids t).length mc)) := hv4
  have hbw3 := below_step hbw2 (by simp; omega) hb2
  have HB2 : Hid (Below _ _ w2) := hb2
  have m0 : w2.cell? ⟨w.heap.size + 1 + 1, 0, none⟩ = some (.int .i64 (Nd.sort t)) := by rw [hc2 _ _ (by simp; omega)]; simp [go_sem, hc]
  have mf0 : w2.frozen? ⟨w.heap.size + 1 + 1, 0, none⟩ = false := by rw [hf2 _ _ (by simp; omega)]; simp [go_sem, hf]
  have m1 : w2.cell? ⟨w.heap.size + 1 + 1, 1, none⟩ = some (.int .i64 (Nd.num t)) := by rw [hc2 _ _ (by simp; omega)]; simp [go_sem, hc]
  have mf1 : w2.frozen? ⟨w.heap.size + 1 + 1, 1, none⟩ = false := by rw [hf2 _ _ (by simp; omega)]; simp [go_sem, hf]
  have m2 : w2.cell? ⟨w.heap.size + 1 + 1, 2, none⟩ = some (.string (Nd.text t)) := by rw [hc2 _ _ (by simp; omega)]; simp [go_sem, hc]
  have mf2 : w2.frozen? ⟨w.heap.size + 1 + 1, 2, none⟩ = false := by rw [hf2 _ _ (by simp; omega)]; simp [go_sem, hf]
  have m3 : w2.cell? ⟨w.heap.size + 1 + 1, 3, none⟩ = some (.slice na (Nd.names t).length nc) := by rw [hc2 _ _ (by simp; omega)]; simp [go_sem, hc]
  have mf3 : w2.frozen? ⟨w.heap.size + 1 + 1, 3, none⟩ = false := by rw [hf2 _ _ (by simp; omega)]; simp [go_sem, hf]
  have m4 : w2.cell? ⟨w.heap.size + 1 + 1, 4, none⟩ = some (.slice none 0 0) := by rw [hc2 _ _ (by simp; omega)]; simp [go_sem, hc]
  have mf4 : w2.frozen? ⟨w.heap.size + 1 + 1, 4, none⟩ = false := by rw [hf2 _ _ (by simp; omega)]; simp [go_sem, hf]
  have r0 : w2.cell? ⟨w.heap.size + 1, 0, none⟩ = some (.int .i64 0) := by rw [hc2 _ _ (by simp; omega)]; simp [go_sem, hc]
  have rf0 : w2.frozen? ⟨w.heap.size + 1, 0, none⟩ = false := by rw [hf2 _ _ (by simp; omega)]; simp [go_sem, hf]
  have r1 : w2.cell? ⟨w.heap.size + 1, 1, none⟩ = some (.int .i64 0) := by rw [hc2 _ _ (by simp; omega)]; simp [go_sem, hc]
  have rf1 : w2.frozen? ⟨w.heap.size + 1, 1, none⟩ = false := by rw [hf2 _ _ (by simp; omega)]; simp [go_sem, hf]
  have r2 : w2.cell? ⟨w.heap.size + 1, 2, none⟩ = some (.string ⟨#[]⟩) := by rw [hc2 _ _ (by simp; omega)]; simp [go_sem, hc]
  have rf2 : w2.frozen? ⟨w.heap.size + 1, 2, none⟩ = false := by rw [hf2 _ _ (by simp; omega)]; simp [go_sem, hf]
  have r3 : w2.cell? ⟨w.heap.size + 1, 3, none⟩ = some (.slice none 0 0) := by rw [hc2 _ _ (by simp; omega)]; simp [go_sem, hc]
  have rf3 : w2.frozen? ⟨w.heap.size + 1, 3, none⟩ = false := by rw [hf2 _ _ (by simp; omega)]; simp [go_sem, hf]
  have r4 : w2.cell? ⟨w.heap.size + 1, 4, none⟩ = some (.slice none 0 0) := by rw [hc2 _ _ (by simp; omega)]; simp [go_sem, hc]
  have rf4 : w2.frozen? ⟨w.heap.size + 1, 4, none⟩ = false := by rw [hf2 _ _ (by simp; omega)]; simp [go_sem, hf]
  clear hv4 HK2 hbw2 hb1 hb2 hc hf hc2 hf2
  have HF : Hid (NodeIn (fun b => w.heap.size ≤ b ∧ b < (put5 (w2.setCell ⟨w.heap.size + 1 + 1, 4, none⟩ (.slice ma (Nd.kids t).length mc)) (w.heap.size + 1) 0 (.int .i64 (Nd.sort t)) (.int .i64 (Nd.num t)) (.string (Nd.text t)) (.slice na (Nd.names t).length nc) (.slice ma (Nd.kids t).length mc)).heap.size)
      (put5 (w2.setCell ⟨w.heap.size + 1 + 1, 4, none⟩ (.slice ma (Nd.kids t).length mc)) (w.heap.size + 1) 0 (.int .i64 (Nd.sort t)) (.int .i64 (Nd.num t)) (.string (Nd.text t)) (.slice na (Nd.names t).length nc) (.slice ma (Nd.kids t).length mc))
      (n + 1) t (.int .i64 (Nd.sort t)) (.int .i64 (Nd.num t)) (.string (Nd.text t)) (.slice na (Nd.names t).length nc) (.slice ma (Nd.kids t).length mc)) := by
    refine ⟨rfl, rfl, rfl, hs, hw0, hw1, HV3.out.keep (fun b hb => ?_) (fun b hb => ?_), HV4.out.keepN (fun b hb => ?_) (fun b hb => ?_), HC3.out, HC4.out⟩
    · simp at hb
      rw [put5_other (by omega), Below.heap_setCell _ _ _ _ (by show b ≠ w.heap.size + 1 + 1; omega), HB2.out.block b (by simp; omega), Below.heap_setCell _ _ _ _ (by show b ≠ w.heap.size + 1 + 1; omega)]
    · simp at hb; rw [put5_size]; simp; omega
    · simp at hb
      rw [put5_other (by omega), Below.heap_setCell _ _ _ _ (by show b ≠ w.heap.size + 1 + 1; omega)]
    · simp at hb; rw [put5_size]; simp; omega
  have HE : Hid (Below w.heap.size w (put5 (w2.setCell ⟨w.heap.size + 1 + 1, 4, none⟩ (.slice ma (Nd.kids t).length mc)) (w.heap.size + 1) 0 (.int .i64 (Nd.sort t)) (.int .i64 (Nd.num t)) (.string (Nd.text t)) (.slice na (Nd.names t).length nc) (.slice ma (Nd.kids t).length mc))) :=
    put5_below (hbw3.setCell (by show w.heap.size ≤ w.heap.size + 1 + 1; omega) _) (by omega)
  clear HV3 HV4 HB2 hbw3 hw0 hw1 hs
  go_wp2_with fail
  refine bodyPost_ret (v := .agg #[.int .i64 (Nd.sort t), .int .i64 (Nd.num t), .string (Nd.text t), .slice na (Nd.names t).length nc, .slice ma (Nd.kids t).length mc]) (by simp [results, Tryz.results8, go_sem, r0, r1, r2, r3, r4]) rfl ?_
  exact ⟨_, _, _, _, _, rfl, HF.out, HE.out⟩

theorem toNode_any : ∀ n, ToSaidN n := by
  intro n
  induction n with
  | zero => intro S t c0 c1 c2 c3 c4 w ht; exact ht.elim
  | succ n ih => exact toNode_step n ih

end Go.Proofs.YtlinplghgamgbaaGreatDoor
