/-
  Trees in memory: what it means that five cells hold a tree, all of whose memory lies below block B; and that this lasts while nothing below B is written.
-/
import Derived.Test.YtpnnbdejneoccaaRows
import Derived.Test.YtpnnbdejneoccaaPlain
import Derived.WalkKit
import Derived.WalkSpells
import Derived.WalkLawsBesides
import Derived.Deep.OwnRows
namespace Go.Proofs.Ytpnnbdejneoccaa
open Go.RowKit

/-- A fact laid behind Hid, its statement read off. -/
theorem hidF {p : Prop} (h : p) : Hid p := h

/-- A slice of texts, in blocks of S. -/
def StrsIn (S : Nat → Prop) (w : World) (l : List ByteArray) (v : Value) : Prop :=
  ∃ (ao : Option Addr) (cap : Nat), v = .slice ao l.length cap ∧ l.length ≤ maxLen ∧ (∀ s, s ∈ l → s.size ≤ maxLen) ∧
    (l ≠ [] → ∃ b off, ao = some ⟨b, off, none⟩ ∧ S b ∧ ∀ i (h : i < l.length), w.cell? ⟨b, off + i, none⟩ = some (.string l[i]))

/-- A slice of things of five cells each, in blocks of S. -/
def RowIn {α : Type} (S : Nat → Prop) (w : World) (R : α → Value → Value → Value → Value → Value → Prop) (l : List α) (v : Value) : Prop :=
  ∃ (ao : Option Addr) (cap : Nat), v = .slice ao l.length cap ∧ l.length ≤ maxLen ∧
    (l ≠ [] → ∃ b off, ao = some ⟨b, off, none⟩ ∧ S b ∧ ∀ i (h : i < l.length), ∃ c0 c1 c2 c3 c4, w.cell? ⟨b, off + i * 5, none⟩ = some c0 ∧ w.cell? ⟨b, off + i * 5 + 1, none⟩ = some c1 ∧
      w.cell? ⟨b, off + i * 5 + 2, none⟩ = some c2 ∧ w.cell? ⟨b, off + i * 5 + 3, none⟩ = some c3 ∧ w.cell? ⟨b, off + i * 5 + 4, none⟩ = some c4 ∧ R l[i] c0 c1 c2 c3 c4)

/-- Five cells hold a tree, its memory in blocks of S. -/
def TreeIn (S : Nat → Prop) (w : World) : (n : Nat) → T n → Value → Value → Value → Value → Value → Prop
  | 0, _, _, _, _, _, _ => False
  | n + 1, t, c0, c1, c2, c3, c4 => c0 = .int .i64 (Nd.sort t) ∧ c1 = .int .i64 (Nd.num t) ∧ c2 = .string (Nd.text t) ∧ (Nd.text t).size ≤ maxLen ∧
      (Lit.int .i64 (Nd.sort t)).wf = true ∧ (Lit.int .i64 (Nd.num t)).wf = true ∧ StrsIn S w (Nd.names t) c3 ∧ RowIn S w (TreeIn S w n) (Nd.kids t) c4

/-- The blocks of S are as they were. -/
def Same (S : Nat → Prop) (w w' : World) : Prop := ∀ b, S b → w'.heap[b]? = w.heap[b]?

theorem Same.cell {S : Nat → Prop} {w w' : World} (h : Same S w w') {p : Addr} (hp : S p.block) : w'.cell? p = w.cell? p := World.cell?_of_block (w := w) (h p.block hp)

theorem same_below {S : Nat → Prop} {B : Nat} {w w' : World} (h : Below B w w') (hS : ∀ b, S b → b < B) : Same S w w' := fun b hb => h.block b (hS b hb)

theorem StrsIn.keep {S S' : Nat → Prop} {w w' : World} {l : List ByteArray} {v : Value} (h : StrsIn S w l v) (hb : Same S w w') (hS : ∀ b, S b → S' b) : StrsIn S' w' l v := by
  obtain ⟨ao, cap, hv, hl, hs, hc⟩ := h
  refine ⟨ao, cap, hv, hl, hs, fun hne => ?_⟩
  obtain ⟨b, off, ha, hB, hcell⟩ := hc hne
  exact ⟨b, off, ha, hS b hB, fun i hi => (hb.cell (p := ⟨b, off + i, none⟩) hB).trans (hcell i hi)⟩

theorem RowIn.keep {α : Type} {S S' : Nat → Prop} {w w' : World} {R R' : α → Value → Value → Value → Value → Value → Prop} {l : List α} {v : Value} (h : RowIn S w R l v) (hb : Same S w w') (hS : ∀ b, S b → S' b)
    (hR : ∀ x c0 c1 c2 c3 c4, x ∈ l → R x c0 c1 c2 c3 c4 → R' x c0 c1 c2 c3 c4) : RowIn S' w' R' l v := by
  obtain ⟨ao, cap, hv, hl, hc⟩ := h
  refine ⟨ao, cap, hv, hl, fun hne => ?_⟩
  obtain ⟨b, off, ha, hB, hcell⟩ := hc hne
  refine ⟨b, off, ha, hS b hB, fun i hi => ?_⟩
  obtain ⟨c0, c1, c2, c3, c4, h0, h1, h2, h3, h4, hr⟩ := hcell i hi
  exact ⟨c0, c1, c2, c3, c4, (hb.cell (p := ⟨b, off + i * 5, none⟩) hB).trans h0, (hb.cell (p := ⟨b, off + i * 5 + 1, none⟩) hB).trans h1, (hb.cell (p := ⟨b, off + i * 5 + 2, none⟩) hB).trans h2,
    (hb.cell (p := ⟨b, off + i * 5 + 3, none⟩) hB).trans h3, (hb.cell (p := ⟨b, off + i * 5 + 4, none⟩) hB).trans h4, hR _ _ _ _ _ _ (List.getElem_mem hi) hr⟩

theorem TreeIn.keep {S S' : Nat → Prop} {w w' : World} (hb : Same S w w') (hS : ∀ b, S b → S' b) : ∀ {n : Nat} {t : T n} {c0 c1 c2 c3 c4 : Value}, TreeIn S w n t c0 c1 c2 c3 c4 → TreeIn S' w' n t c0 c1 c2 c3 c4 := by
  intro n
  induction n with
  | zero => intro t c0 c1 c2 c3 c4 h; exact h.elim
  | succ n ih =>
    intro t c0 c1 c2 c3 c4 h
    obtain ⟨h0, h1, h2, hs, hw0, hw1, h3, h4⟩ := h
    exact ⟨h0, h1, h2, hs, hw0, hw1, h3.keep hb hS, h4.keep hb hS fun x _ _ _ _ _ _ hx => ih hx⟩

theorem RowIn.keepT {S S' : Nat → Prop} {w w' : World} {n : Nat} {l : List (T n)} {v : Value} (h : RowIn S w (TreeIn S w n) l v) (hb : Same S w w') (hS : ∀ b, S b → S' b) : RowIn S' w' (TreeIn S' w' n) l v :=
  h.keep hb hS fun _ _ _ _ _ _ _ hx => hx.keep hb hS

/-- The world behind a call that made memory: what was there is as it was. -/
theorem below_step {B : Nat} {a b c : World} (h : Below B a b) (hs : B ≤ b.heap.size) (k : Below b.heap.size b c) : Below B a c := h.trans (k.mono hs)

theorem TreeIn.shape {S : Nat → Prop} {w : World} : ∀ {n : Nat} {t : T n} {c0 c1 c2 c3 c4 : Value}, TreeIn S w n t c0 c1 c2 c3 c4 →
    ∃ (s m : Int) (x : ByteArray) (a : Option Addr) (l c : Nat) (a' : Option Addr) (l' c' : Nat), c0 = .int .i64 s ∧ c1 = .int .i64 m ∧ c2 = .string x ∧ c3 = .slice a l c ∧ c4 = .slice a' l' c' := by
  intro n
  cases n with
  | zero => intro t c0 c1 c2 c3 c4 h; exact h.elim
  | succ n =>
    intro t c0 c1 c2 c3 c4 h
    obtain ⟨h0, h1, h2, hs, hw0, hw1, ⟨ao, cap, h3, -⟩, ⟨ao', cap', h4, -⟩⟩ := h
    exact ⟨_, _, _, _, _, _, _, _, _, h0, h1, h2, h3, h4⟩

/-- Five cells of a world, stored one behind the other. -/
def put5 (w : World) (b o : Nat) (g0 g1 g2 g3 g4 : Value) : World :=
  ((((w.setCell ⟨b, o, none⟩ g0).setCell ⟨b, o + 1, none⟩ g1).setCell ⟨b, o + 2, none⟩ g2).setCell ⟨b, o + 3, none⟩ g3).setCell ⟨b, o + 4, none⟩ g4

/-- What the cells of a row hold behind that. -/
def put5F (o : Nat) (F : Nat → Value) (g0 g1 g2 g3 g4 : Value) (j : Nat) : Value :=
  if j = o + 4 then g4 else if j = o + 3 then g3 else if j = o + 2 then g2 else if j = o + 1 then g1 else if j = o then g0 else F j

theorem put5_row {w : World} {b t N : Nat} {F : Nat → Value} (h : w.rowIs b t N F) (o : Nat) (g0 g1 g2 g3 g4 : Value) : (put5 w b o g0 g1 g2 g3 g4).rowIs b t N (put5F o F g0 g1 g2 g3 g4) :=
  ((((h.set o g0).set (o + 1) g1).set (o + 2) g2).set (o + 3) g3).set (o + 4) g4

theorem put5F_0 (o : Nat) (F : Nat → Value) (g0 g1 g2 g3 g4 : Value) : put5F o F g0 g1 g2 g3 g4 o = g0 := by simp [put5F]
theorem put5F_1 (o : Nat) (F : Nat → Value) (g0 g1 g2 g3 g4 : Value) : put5F o F g0 g1 g2 g3 g4 (o + 1) = g1 := by simp [put5F]
theorem put5F_2 (o : Nat) (F : Nat → Value) (g0 g1 g2 g3 g4 : Value) : put5F o F g0 g1 g2 g3 g4 (o + 2) = g2 := by simp [put5F]
theorem put5F_3 (o : Nat) (F : Nat → Value) (g0 g1 g2 g3 g4 : Value) : put5F o F g0 g1 g2 g3 g4 (o + 3) = g3 := by simp [put5F]
theorem put5F_4 (o : Nat) (F : Nat → Value) (g0 g1 g2 g3 g4 : Value) : put5F o F g0 g1 g2 g3 g4 (o + 4) = g4 := by simp [put5F]
theorem put5F_other (o : Nat) (F : Nat → Value) (g0 g1 g2 g3 g4 : Value) (j : Nat) (hj : j < o ∨ o + 5 ≤ j) : put5F o F g0 g1 g2 g3 g4 j = F j := by
  unfold put5F
  rw [if_neg (by omega), if_neg (by omega), if_neg (by omega), if_neg (by omega), if_neg (by omega)]

theorem put5_other {w : World} {b o : Nat} {g0 g1 g2 g3 g4 : Value} {k : Nat} (h : k ≠ b) : (put5 w b o g0 g1 g2 g3 g4).heap[k]? = w.heap[k]? := by
  unfold put5
  rw [Below.heap_setCell _ _ _ _ h, Below.heap_setCell _ _ _ _ h, Below.heap_setCell _ _ _ _ h, Below.heap_setCell _ _ _ _ h, Below.heap_setCell _ _ _ _ h]

theorem put5_size {w : World} {b o : Nat} {g0 g1 g2 g3 g4 : Value} : (put5 w b o g0 g1 g2 g3 g4).heap.size = w.heap.size := by
  simp [put5]

theorem put5_below {B : Nat} {a w : World} {b o : Nat} {g0 g1 g2 g3 g4 : Value} (h : Below B a w) (hb : B ≤ b) : Below B a (put5 w b o g0 g1 g2 g3 g4) :=
  ((((h.setCell hb g0).setCell hb g1).setCell hb g2).setCell hb g3).setCell hb g4

theorem rowIs_made_any (w : World) (z : Array Value) (n : Nat) (t : TypeId) : ∃ F, (w.alloc (.cells (madeCells z n) t)).rowIs w.heap.size t n F := by
  have h := World.rowIs_alloc w (madeCells z n) t (fun i => (madeCells z n).getD i undef) (fun i hi => by simp [hi])
  rw [size_madeCells] at h
  exact ⟨_, h⟩

theorem bcell {W w1 : World} (hb : Below W.heap.size W w1) : (∀ b o, b < W.heap.size → w1.cell? ⟨b, o, none⟩ = W.cell? ⟨b, o, none⟩) ∧ (∀ b o, b < W.heap.size → w1.frozen? ⟨b, o, none⟩ = W.frozen? ⟨b, o, none⟩) :=
  ⟨fun b o h => hb.cell (p := ⟨b, o, none⟩) h, fun b o h => hb.frozen (p := ⟨b, o, none⟩) h⟩

end Go.Proofs.Ytpnnbdejneoccaa
