/-
  Several texts in one, in their order.
-/
import Derived.Test.YtpnnbdejneoccaaRows
import Derived.Test.YtpnnbdejneoccaaPlain
import Derived.WalkKit
import Derived.WalkSpells
import Derived.WalkLawsBesides
import Derived.Deep.OwnRows

/-
  Trees in memory: what it means that five cells hold a tree, all of whose memory lies below block B; and that this lasts while nothing below B is written.
-/
namespace Go.Proofs.Ytpnnbdejneoccaa
open Go.RowKit

/-- A fact laid behind Hid, its statement read off. -/
theorem hidF {p : Prop} (h : p) : Hid p := h

/-- A slice of texts, in blocks of S. -/
def StrsIn (S : Nat → Prop) (w : World) (l : List ByteArray) (v : Value) : Prop :=
  ∃ (ao : Option Addr) (cap : Nat), v = .slice ao l.length cap ∧ l.length ≤ maxLen ∧ (∀ s, s ∈ l → s.size ≤ maxLen) ∧
    (l ≠ [] → ∃ b off, ao = some ⟨b, off, none⟩ ∧ S b ∧ ∀ i (h : i < l.length), w.cell? ⟨b, off + i, none⟩ = some (.string l[i]))

/-- A slice of things of five cells each, in blocks of S. -/
def RowIn {α : Type} (S : Nat → Prop) (w : World) (R : α → Value → Value → Value → Value → Value → Prop) (l : List α) (v : Value) : Prop :=
  ∃ (ao : Option Addr) (cap : Nat), v = .slice ao l.length cap ∧ l.length ≤ maxLen ∧
    (l ≠ [] → ∃ b off, ao = some ⟨b, off, none⟩ ∧ S b ∧ ∀ i (h : i < l.length), ∃ c0 c1 c2 c3 c4, w.cell? ⟨b, off + i * 5, none⟩ = some c0 ∧ w.cell? ⟨b, off + i * 5 + 1, none⟩ = some c1 ∧
      w.cell? ⟨b, off + i * 5 + 2, none⟩ = some c2 ∧ w.cell? ⟨b, off + i * 5 + 3, none⟩ = some c3 ∧ w.cell? ⟨b, off + i * 5 + 4, none⟩ = some c4 ∧ R l[i] c0 c1 c2 c3 c4)

/-- Five cells hold a tree, its memory in blocks of S. -/
def TreeIn (S : Nat → Prop) (w : World) : (n : Nat) → T n → Value → Value → Value → Value → Value → Prop
  | 0, _, _, _, _, _, _ => False
  | n + 1, t, c0, c1, c2, c3, c4 => c0 = .int .i64 (Nd.sort t) ∧ c1 = .int .i64 (Nd.num t) ∧ c2 = .string (Nd.text t) ∧ (Nd.text t).size ≤ maxLen ∧
      (Lit.int .i64 (Nd.sort t)).wf = true ∧ (Lit.int .i64 (Nd.num t)).wf = true ∧ StrsIn S w (Nd.names t) c3 ∧ RowIn S w (TreeIn S w n) (Nd.kids t) c4

/-- The blocks of S are as they were. -/
def Same (S : Nat → Prop) (w w' : World) : Prop := ∀ b, S b → w'.heap[b]? = w.heap[b]?

theorem Same.cell {S : Nat → Prop} {w w' : World} (h : Same S w w') {p : Addr} (hp : S p.block) : w'.cell? p = w.cell? p := World.cell?_of_block (w := w) (h p.block hp)

theorem same_below {S : Nat → Prop} {B : Nat} {w w' : World} (h : Below B w w') (hS : ∀ b, S b → b < B) : Same S w w' := fun b hb => h.block b (hS b hb)

theorem StrsIn.keep {S S' : Nat → Prop} {w w' : World} {l : List ByteArray} {v : Value} (h : StrsIn S w l v) (hb : Same S w w') (hS : ∀ b, S b → S' b) : StrsIn S' w' l v := by
  obtain ⟨ao, cap, hv, hl, hs, hc⟩ := h
  refine ⟨ao, cap, hv, hl, hs, fun hne => ?_⟩
  obtain ⟨b, off, ha, hB, hcell⟩ := hc hne
  exact ⟨b, off, ha, hS b hB, fun i hi => (hb.cell (p := ⟨b, off + i, none⟩) hB).trans (hcell i hi)⟩

theorem RowIn.keep {α : Type} {S S' : Nat → Prop} {w w' : World} {R R' : α → Value → Value → Value → Value → Value → Prop} {l : List α} {v : Value} (h : RowIn S w R l v) (hb : Same S w w') (hS : ∀ b, S b → S' b)
    (hR : ∀ x c0 c1 c2 c3 c4, x ∈ l → R x c0 c1 c2 c3 c4 → R' x c0 c1 c2 c3 c4) : RowIn S' w' R' l v := by
  obtain ⟨ao, cap, hv, hl, hc⟩ := h
  refine ⟨ao, cap, hv, hl, fun hne => ?_⟩
  obtain ⟨b, off, ha, hB, hcell⟩ := hc hne
  refine ⟨b, off, ha, hS b hB, fun i hi => ?_⟩
  obtain ⟨c0, c1, c2, c3, c4, h0, h1, h2, h3, h4, hr⟩ := hcell i hi
  exact ⟨c0, c1, c2, c3, c4, (hb.cell (p := ⟨b, off + i * 5, none⟩) hB).trans h0, (hb.cell (p := ⟨b, off + i * 5 + 1, none⟩) hB).trans h1, (hb.cell (p := ⟨b, off + i * 5 + 2, none⟩) hB).trans h2,
    (hb.cell (p := ⟨b, off + i * 5 + 3, none⟩) hB).trans h3, (hb.cell (p := ⟨b, off + i * 5 + 4, none⟩) hB).trans h4, hR _ _ _ _ _ _ (List.getElem_mem hi) hr⟩

theorem TreeIn.keep {S S' : Nat → Prop} {w w' : World} (hb : Same S w w') (hS : ∀ b, S b → S' b) : ∀ {n : Nat} {t : T n} {c0 c1 c2 c3 c4 : Value}, TreeIn S w n t c0 c1 c2 c3 c4 → TreeIn S' w' n t c0 c1 c2 c3 c4 := by
  intro n
  induction n with
  | zero => intro t c0 c1 c2 c3 c4 h; exact h.elim
  | succ n ih =>
    intro t c0 c1 c2 c3 c4 h
    obtain ⟨h0, h1, h2, hs, hw0, hw1, h3, h4⟩ := h
    exact ⟨h0, h1, h2, hs, hw0, hw1, h3.keep hb hS, h4.keep hb hS fun x _ _ _ _ _ _ hx => ih hx⟩

theorem RowIn.keepT {S S' : Nat → Prop} {w w' : World} {n : Nat} {l : List (T n)} {v : Value} (h : RowIn S w (TreeIn S w n) l v) (hb : Same S w w') (hS : ∀ b, S b → S' b) : RowIn S' w' (TreeIn S' w' n) l v :=
  h.keep hb hS fun _ _ _ _ _ _ _ hx => hx.keep hb hS

/-- The world behind a call that made memory: what was there is as it was. -/
theorem below_step {B : Nat} {a b c : World} (h : Below B a b) (hs : B ≤ b.heap.size) (k : Below b.heap.size b c) : Below B a c := h.trans (k.mono hs)

theorem TreeIn.shape {S : Nat → Prop} {w : World} : ∀ {n : Nat} {t : T n} {c0 c1 c2 c3 c4 : Value}, TreeIn S w n t c0 c1 c2 c3 c4 →
    ∃ (s m : Int) (x : ByteArray) (a : Option Addr) (l c : Nat) (a' : Option Addr) (l' c' : Nat), c0 = .int .i64 s ∧ c1 = .int .i64 m ∧ c2 = .string x ∧ c3 = .slice a l c ∧ c4 = .slice a' l' c' := by
  intro n
  cases n with
  | zero => intro t c0 c1 c2 c3 c4 h; exact h.elim
  | succ n =>
    intro t c0 c1 c2 c3 c4 h
    obtain ⟨h0, h1, h2, hs, hw0, hw1, ⟨ao, cap, h3, -⟩, ⟨ao', cap', h4, -⟩⟩ := h
    exact ⟨_, _, _, _, _, _, _, _, _, h0, h1, h2, h3, h4⟩

/-- Five cells of a world, stored one behind the other. -/
def put5 (w : World) (b o : Nat) (g0 g1 g2 g3 g4 : Value) : World :=
  ((((w.setCell ⟨b, o, none⟩ g0).setCell ⟨b, o + 1, none⟩ g1).setCell ⟨b, o + 2, none⟩ g2).setCell ⟨b, o + 3, none⟩ g3).setCell ⟨b, o + 4, none⟩ g4

theorem put5_other {w : World} {b o : Nat} {g0 g1 g2 g3 g4 : Value} {k : Nat} (h : k ≠ b) : (put5 w b o g0 g1 g2 g3 g4).heap[k]? = w.heap[k]? := by
  unfold put5
  rw [Below.heap_setCell _ _ _ _ h, Below.heap_setCell _ _ _ _ h, Below.heap_setCell _ _ _ _ h, Below.heap_setCell _ _ _ _ h, Below.heap_setCell _ _ _ _ h]

theorem put5_size {w : World} {b o : Nat} {g0 g1 g2 g3 g4 : Value} : (put5 w b o g0 g1 g2 g3 g4).heap.size = w.heap.size := by
  simp [put5]

theorem put5_below {B : Nat} {a w : World} {b o : Nat} {g0 g1 g2 g3 g4 : Value} (h : Below B a w) (hb : B ≤ b) : Below B a (put5 w b o g0 g1 g2 g3 g4) :=
  ((((h.setCell hb g0).setCell hb g1).setCell hb g2).setCell hb g3).setCell hb g4

theorem bcell {W w1 : World} (hb : Below W.heap.size W w1) : (∀ b o, b < W.heap.size → w1.cell? ⟨b, o, none⟩ = W.cell? ⟨b, o, none⟩) ∧ (∀ b o, b < W.heap.size → w1.frozen? ⟨b, o, none⟩ = W.frozen? ⟨b, o, none⟩) :=
  ⟨fun b o h => hb.cell (p := ⟨b, o, none⟩) h, fun b o h => hb.frozen (p := ⟨b, o, none⟩) h⟩

end Go.Proofs.Ytpnnbdejneoccaa

/-
  Plain mathematics of names and texts: which bytes a text may have, which texts are names, which names ascend; when a node is ok but for its kids; when a tree is ok.
-/
namespace Go.Proofs.Ytpnnbdejneoccaa
open Go.RowKit

def okByte (c : UInt8) : Bool := decide (32 ≤ (c.toNat : Int) ∧ (c.toNat : Int) ≤ 126 ∧ ¬ (c.toNat : Int) = 34)
def textB (s : ByteArray) : Bool := decide (s.size ≤ 60) && s.data.toList.all okByte
def nmByte (c : UInt8) : Bool := decide ((97 ≤ (c.toNat : Int) ∧ (c.toNat : Int) ≤ 122) ∨ (48 ≤ (c.toNat : Int) ∧ (c.toNat : Int) ≤ 57))
def upByte (c : UInt8) : Bool := decide (97 ≤ (c.toNat : Int) ∧ (c.toNat : Int) ≤ 122)
def nameB (s : ByteArray) : Bool := decide (1 ≤ s.size ∧ s.size ≤ 8) && upByte (s.data.toList.headD 0) && s.data.toList.all nmByte
def ltB (a b : ByteArray) : Bool := Op.bytesLess a.toList b.toList
def riseAt (l : List ByteArray) (i : Nat) : Bool := nameB (l.getD i ByteArray.empty) && (i == 0 || ltB (l.getD (i - 1) ByteArray.empty) (l.getD i ByteArray.empty))
def riseTo (l : List ByteArray) (k : Nat) : Bool := (List.range k).all (riseAt l)
def riseB (l : List ByteArray) : Bool := riseTo l l.length

theorem riseTo_succ (l : List ByteArray) (k : Nat) : riseTo l (k + 1) = (riseTo l k && riseAt l k) := by
  simp [riseTo, List.range_succ]

theorem riseTo_false (l : List ByteArray) (k : Nat) (h : k < l.length) (hf : riseAt l k = false) : riseB l = false := by
  unfold riseB riseTo
  rw [List.all_eq_false]
  exact ⟨k, List.mem_range.2 h, by simp [hf]⟩

theorem all_false_at {s : ByteArray} {p : UInt8 → Bool} (k : Nat) (h : k < s.size) (hf : p s[k] = false) : s.data.toList.all p = false := by
  rw [List.all_eq_false]
  exact ⟨s[k], by simp [ByteArray.getElem_eq_getElem_data], by simp [hf]⟩

theorem all_take_succ {s : ByteArray} {p : UInt8 → Bool} (k : Nat) (h : k < s.size) (ht : (s.data.toList.take k).all p = true) (hf : p s[k] = true) : (s.data.toList.take (k + 1)).all p = true := by
  rw [List.take_succ_eq_append_getElem (by simpa using h)]
  rw [List.all_append, ht]
  simpa [ByteArray.getElem_eq_getElem_data] using hf

theorem all_take_all {s : ByteArray} {p : UInt8 → Bool} (k : Nat) (h : s.size ≤ k) (ht : (s.data.toList.take k).all p = true) : s.data.toList.all p = true := by
  rw [List.take_of_length_le (by simpa using h)] at ht; exact ht

/-- A node is ok, but for its kids: by its parts, and how many kids there are. -/
def aloneF (s m : Int) (x : ByteArray) (l : List ByteArray) (kl : Nat) : Bool :=
  if s = 1 then decide (-999999999 ≤ m ∧ m ≤ 999999999) && x.toList.isEmpty && ((l.length : Int) == 0) && ((kl : Int) == 0)
  else if s = 2 then (m == 0) && textB x && ((l.length : Int) == 0) && ((kl : Int) == 0)
  else if s = 3 then decide (0 ≤ m ∧ m ≤ 1) && x.toList.isEmpty && ((l.length : Int) == 0) && ((kl : Int) == 0)
  else if s = 4 then (m == 0) && x.toList.isEmpty && ((l.length : Int) == 0) && decide ((kl : Int) ≤ 20)
  else if s = 5 then (m == 0) && x.toList.isEmpty && ((l.length : Int) == (kl : Int)) && riseB l
  else if s = 6 then (m == 0) && x.toList.isEmpty && ((l.length : Int) == 0) && decide ((kl : Int) ≤ 1)
  else false

def aloneB {α : Type} (t : Nd α) : Bool := aloneF t.sort t.num t.text t.names t.kids.length

/-- All nodes of a tree are ok by themselves and it is at most so deep. -/
def goodT : (n : Nat) → T n → Int → Bool
  | 0, _, _ => false
  | n + 1, t, d => decide (d ≤ 6) && aloneB (show Nd (T n) from t) && (Nd.kids t).all (fun k => goodT n k (d + 1))

/-- A tree is ok. -/
def okT (n : Nat) (t : T n) : Bool := goodT n t 1 && decide (cntT n t ≤ 120)

theorem cntT_pos : ∀ (n : Nat) (t : T n) (d : Int), goodT n t d = true → 1 ≤ cntT n t := by
  intro n t d h
  cases n with
  | zero => simp [goodT] at h
  | succ n => simp only [cntT]; omega

end Go.Proofs.Ytpnnbdejneoccaa

/-
  Plain mathematics: lists of bytes as texts; texts with a comma between; how long they are.
-/
namespace Go.Proofs.Ytpnnbdejneoccaa
open Go.RowKit

/-- A list of bytes as a text. -/
def bs (l : List UInt8) : ByteArray := ⟨l.toArray⟩

theorem bs_append (a b : List UInt8) : bs a ++ bs b = bs (a ++ b) := by
  apply ByteArray.ext
  simp [bs]

theorem bs_size (l : List UInt8) : (bs l).size = l.length := by simp [bs, ByteArray.size]

/-- Texts with a comma between, each with what stands ahead of it. -/
def joinL : List (List UInt8) → List UInt8
  | [] => []
  | [x] => x
  | x :: y :: r => x ++ 44 :: joinL (y :: r)

/-- What the kids of a form are called, each with its text. -/
def zipL : List ByteArray → List (List UInt8) → List (List UInt8)
  | a :: r, x :: s => (a.data.toList ++ 58 :: x) :: zipL r s
  | _, _ => []

theorem riseB_names (l : List ByteArray) (h : riseB l = true) : ∀ s, s ∈ l → s.size ≤ 8 := by
  intro s hs
  obtain ⟨i, hi, rfl⟩ := List.getElem_of_mem hs
  unfold riseB riseTo at h
  have := List.all_eq_true.1 h i (List.mem_range.2 hi)
  simp only [riseAt, Bool.and_eq_true, nameB, decide_eq_true_eq] at this
  have h2 := this.1.1.1.2
  simpa [List.getD, hi] using h2

end Go.Proofs.Ytpnnbdejneoccaa

/-
  Small facts on what a call returns.
-/
namespace Go.Proofs.Ytpnnbdejneoccaa
open Go.RowKit

theorem ret_int {k : IntKind} {a b : Int} (h : a = b) : Ending.returned (.int k a) = .returned (.int k b) := by rw [h]
theorem str_ret {a b : ByteArray} (h : a = b) : Ending.returned (.string a) = .returned (.string b) := by rw [h]

end Go.Proofs.Ytpnnbdejneoccaa

/-
  Plain mathematics: a text ahead is gone over; up to a byte; texts with commas between, from the left.
-/
namespace Go.Proofs.Ytpnnbdejneoccaa
open Go.RowKit

theorem riseB_name {l : List ByteArray} (h : riseB l = true) : ∀ s, s ∈ l → nameB s = true := by
  intro s hs
  obtain ⟨i, hi, rfl⟩ := List.getElem_of_mem hs
  unfold riseB riseTo at h
  have := List.all_eq_true.1 h i (List.mem_range.2 hi)
  simp only [riseAt, Bool.and_eq_true] at this
  have h2 := this.1
  rwa [List.getD_eq_getElem?_getD, List.getElem?_eq_getElem hi] at h2

end Go.Proofs.Ytpnnbdejneoccaa

/-
  Plain mathematics of schemas: a schema of depth at most n, its size, its parts, when it is ok. No program stands behind this text.
-/
namespace Go.Proofs.Ytpnnbdejneoccaa
open Go.RowKit

/-- One node of a schema, its kids of whatever make. -/
structure Kd (α : Type) where
  sort : Int
  names : List ByteArray
  kids : List α

/-- Schemas of at most n levels. -/
def K : Nat → Type
  | 0 => Empty
  | n + 1 => Kd (K n)

end Go.Proofs.Ytpnnbdejneoccaa
