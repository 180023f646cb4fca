/-
  What the specification draws: a row of one thing, many times.
-/
import Derived.Test.YtpalkdcgbbbmeaaGreatDoorDT0
import Derived.Deep.AppendLies
namespace Go.Proofs.YtpalkdcgbbbmeaaGreatDoor
open Go.RowKit

/-- Five cells, n times. -/
def rep5 (c0 c1 c2 c3 c4 : Value) : Nat → List Value
  | 0 => []
  | n + 1 => rep5 c0 c1 c2 c3 c4 n ++ [c0, c1, c2, c3, c4]

theorem rep5_len (c0 c1 c2 c3 c4 : Value) (n : Nat) : (rep5 c0 c1 c2 c3 c4 n).length = n * 5 := by
  induction n with
  | zero => rfl
  | succ n ih => simp only [rep5, List.length_append, ih, List.length_cons, List.length_nil]; omega

theorem rep5_get (c0 c1 c2 c3 c4 : Value) (n j : Nat) (h : j < n) : (rep5 c0 c1 c2 c3 c4 n)[j * 5]? = some c0 ∧ (rep5 c0 c1 c2 c3 c4 n)[j * 5 + 1]? = some c1 ∧ (rep5 c0 c1 c2 c3 c4 n)[j * 5 + 2]? = some c2 ∧ (rep5 c0 c1 c2 c3 c4 n)[j * 5 + 3]? = some c3 ∧ (rep5 c0 c1 c2 c3 c4 n)[j * 5 + 4]? = some c4 := by
  induction n with
  | zero => omega
  | succ n ih =>
    have hl := rep5_len c0 c1 c2 c3 c4 n
    by_cases hj : j < n
    · obtain ⟨h0, h1, h2, h3, h4⟩ := ih hj
      have up : ∀ i v, i < n * 5 → (rep5 c0 c1 c2 c3 c4 n)[i]? = some v → (rep5 c0 c1 c2 c3 c4 (n + 1))[i]? = some v := fun i v hi hv => by
        rw [rep5, List.getElem?_append_left (by omega)]; exact hv
      exact ⟨up _ _ (by omega) h0, up _ _ (by omega) h1, up _ _ (by omega) h2, up _ _ (by omega) h3, up _ _ (by omega) h4⟩
    · have : j = n := by omega
      subst this
      have up : ∀ o v, [c0, c1, c2, c3, c4][o]? = some v → (rep5 c0 c1 c2 c3 c4 (j + 1))[j * 5 + o]? = some v := fun o v hv => by
        rw [rep5, List.getElem?_append_right (by omega), hl, Nat.add_sub_cancel_left]; exact hv
      exact ⟨up 0 _ rfl, up 1 _ rfl, up 2 _ rfl, up 3 _ rfl, up 4 _ rfl⟩

/-- A tree in block X whose kids are one thing, ln times. -/
structure Fill (X : Nat) (W wr : World) (b0 b1 b2 b3 c0 c1 c2 c3 c4 : Value) (ln : Nat) (kv : Value) : Prop where
  os : wr.os = W.os
  tape : wr.tape = W.tape
  output : wr.output = W.output
  size : W.heap.size ≤ wr.heap.size
  block : ∀ b, b < W.heap.size → b ≠ X → wr.heap[b]? = W.heap[b]?
  box : wr.heap[X]? = some (.cells #[b0, b1, b2, b3, kv] 29 (0, 0))
  row : wr.ownsRow (X + 1) 29 5 kv ln (rep5 c0 c1 c2 c3 c4 ln)
  new : ∀ g, kv.ownBlock = some g → W.heap.size ≤ g

theorem Fill.start {X : Nat} {W : World} {b0 b1 b2 b3 : Value} (c0 c1 c2 c3 c4 : Value) (h : W.heap[X]? = some (.cells #[b0, b1, b2, b3, .slice none 0 0] 29 (0, 0))) : Fill X W W b0 b1 b2 b3 c0 c1 c2 c3 c4 0 (.slice none 0 0) :=
  ⟨rfl, rfl, rfl, Nat.le_refl _, fun _ _ _ => rfl, h, ⟨rfl, .inl ⟨rfl, rfl⟩⟩, fun g hg => by cases hg⟩

theorem Fill.more {X : Nat} {W wr W2 : World} {b0 b1 b2 b3 c0 c1 c2 c3 c4 : Value} {ln : Nat} {kv : Value} {one : Obj} {g cap : Nat} (h : Fill X W wr b0 b1 b2 b3 c0 c1 c2 c3 c4 ln kv) (hX : X < W.heap.size)
    (hown : W2.ownsRow (X + 1) 29 5 (.slice (some ⟨g, 0, none⟩) (ln + 1) cap) (ln + 1) (rep5 c0 c1 c2 c3 c4 ln ++ [c0, c1, c2, c3, c4])) (hgrow : (wr.alloc one).grownBy W2 kv.ownBlock) (hat : kv.ownBlock = some g ∨ g = wr.heap.size + 1) :
    Fill X W (W2.setCell ⟨X, 4, none⟩ (.slice (some ⟨g, 0, none⟩) (ln + 1) cap)) b0 b1 b2 b3 c0 c1 c2 c3 c4 (ln + 1) (.slice (some ⟨g, 0, none⟩) (ln + 1) cap) := by
  have hz := h.size
  have hz2 := hgrow.size
  rw [World.size_alloc] at hz2
  have q : ∀ b, b < W.heap.size → W2.heap[b]? = wr.heap[b]? := fun b hb =>
    (hgrow.block b (by simp; omega) (fun e => by have := h.new b e.symm; omega)).trans (Below.heap_alloc _ _ _ (by omega))
  have hgl := owns_lt hown g rfl
  refine ⟨hgrow.os.trans h.os, hgrow.tape.trans h.tape, hgrow.output.trans h.output, ?_, fun b hb hne => ?_, ?_, ?_, fun g' hg' => ?_⟩
  · simp; omega
  · rw [Below.heap_setCell _ _ _ _ hne, q b hb]; exact h.block b hb hne
  · simp [World.setCell, Array.getElem?_modify, (q X hX).trans h.box]
  · exact owns_keep hown fun g' hg' => Below.heap_setCell _ _ _ _ (by have := owns_lt hown g' hg'; show g' ≠ X; omega)
  · have e : g = g' := by simpa [Value.ownBlock] using hg'
    subst e
    rcases hat with h1 | h1
    · exact h.new g h1
    · omega

theorem Fill.row_in {S : Nat → Prop} {X n : Nat} {W wr : World} {b0 b1 b2 b3 c0 c1 c2 c3 c4 : Value} {ln : Nat} {kv : Value} {t : T n} (h : Fill X W wr b0 b1 b2 b3 c0 c1 c2 c3 c4 ln kv) (hl : ln ≤ 1000) (hS : ∀ b, W.heap.size ≤ b → b < wr.heap.size → S b) (ht : TreeIn S wr n t c0 c1 c2 c3 c4) :
    RowIn S wr (TreeIn S wr n) (List.replicate ln t) kv := by
  refine row_of_owns (l := List.replicate ln t) (by rw [List.length_replicate]; exact h.row) (by rw [List.length_replicate]; omega) (fun g hg => hS g (h.new g hg) (owns_lt h.row g hg).2) fun j hj => ?_
  rw [List.length_replicate] at hj
  refine ⟨c0, c1, c2, c3, c4, rep5_get _ _ _ _ _ _ _ hj, ?_⟩
  rw [List.getElem_replicate]; exact ht

theorem Fill.cells {X : Nat} {W wr : World} {b0 b1 b2 b3 c0 c1 c2 c3 c4 : Value} {ln : Nat} {kv : Value} (h : Fill X W wr b0 b1 b2 b3 c0 c1 c2 c3 c4 ln kv) :
    (wr.cell? ⟨X, 0, none⟩ = some b0 ∧ wr.cell? ⟨X, 1, none⟩ = some b1 ∧ wr.cell? ⟨X, 2, none⟩ = some b2 ∧ wr.cell? ⟨X, 3, none⟩ = some b3 ∧ wr.cell? ⟨X, 4, none⟩ = some kv) ∧
      wr.frozen? ⟨X, 0, none⟩ = false ∧ wr.frozen? ⟨X, 1, none⟩ = false ∧ wr.frozen? ⟨X, 2, none⟩ = false ∧ wr.frozen? ⟨X, 3, none⟩ = false ∧ wr.frozen? ⟨X, 4, none⟩ = false := by
  refine ⟨⟨?_, ?_, ?_, ?_, ?_⟩, ?_, ?_, ?_, ?_, ?_⟩ <;> simp [World.cell?, World.frozen?, h.box]

/-- What a maker of a tree makes. -/
def MadeT (d : Nat) (w : World) (e : Ending) (w' : World) : Prop :=
  Below w.heap.size w w' ∧ ∃ (c0 c1 c2 c3 c4 : Value), e = .returned (.agg #[c0, c1, c2, c3, c4]) ∧ ∀ m, d ≤ m → ∃ t : T m, TreeIn (fun b => w.heap.size ≤ b ∧ b < w'.heap.size) w' m t c0 c1 c2 c3 c4 ∧ depT m t d

end Go.Proofs.YtpalkdcgbbbmeaaGreatDoor
