/-
  The program's widenForm: each name of the second form, by a row of function values.
-/
import Derived.Test.YtpalkdcgbbbmeaaGreatDoorKV2
import Derived.Deep.RegionLaw
import Derived.BigQuiet
namespace Go.Proofs.YtpalkdcgbbbmeaaGreatDoor
open Go.RowKit

/-- What the loop of widenForm holds behind k names. -/
structure MForm (S0 : Nat → Prop) (X m : Nat) (w1 : World) (ts : List (T m)) (nv : Value) (k : Nat) (v : Value) (wr : World) : Prop where
  below : Below X w1 wr
  box : wr.heap[X]? = some (.cells #[nv, v] 126 (0, 0))
  row : ∃ xs : List Value, wr.ownsRow (X + 1) 71 1 v k xs ∧ ∀ j (h : j < ts.length) (hx : j < xs.length), InnerT (fun b => S0 b ∨ (X + 1 ≤ b ∧ b < wr.heap.size ∧ v.ownBlock ≠ some b)) wr m ts[j] xs[j]

theorem form_next {S0 : Nat → Prop} {X m : Nat} {ts : List (T m)} {w1 wr V w2 w3 : World} {nv : Value} {k g cap : Nat} {v kv : Value} {xs : List Value} {one : Obj} (h : MForm S0 X m w1 ts nv k v wr) (hk : k < ts.length) (hS : ∀ b, S0 b → b < X)
    (hown : wr.ownsRow (X + 1) 71 1 v k xs) (hxs : ∀ j (h : j < ts.length) (hx : j < xs.length), InnerT (fun b => S0 b ∨ (X + 1 ≤ b ∧ b < wr.heap.size ∧ v.ownBlock ≠ some b)) wr m ts[j] xs[j])
    (hV : Below wr.heap.size wr V) (hVz : V.heap.size = wr.heap.size) (hb2 : Below V.heap.size V w2) (hin : InnerT (fun b => S0 b ∨ (V.heap.size ≤ b ∧ b < w2.heap.size)) w2 m ts[k] kv)
    (hown' : w3.ownsRow (X + 1) 71 1 (.slice (some ⟨g, 0, none⟩) (k + 1) cap) (k + 1) (xs ++ [kv])) (hgrow : (w2.alloc one).grownBy w3 v.ownBlock) (hat : v.ownBlock = some g ∨ g = w2.heap.size + 1) :
    MForm S0 X m w1 ts nv (k + 1) (.slice (some ⟨g, 0, none⟩) (k + 1) cap) (w3.setCell ⟨X, 1, none⟩ (.slice (some ⟨g, 0, none⟩) (k + 1) cap)) := by
  rw [hVz] at hin
  have hb2 : Below wr.heap.size wr w2 := hV.trans (hb2.mono (by omega))
  have hX : X < wr.heap.size := (Array.getElem?_eq_some_iff.1 h.box).1
  have hz2 := hb2.size
  have hz3 := hgrow.size
  simp at hz3
  have hrl : ∀ b, v.ownBlock = some b → X + 1 ≤ b ∧ b < wr.heap.size := r1_lt hown
  have hgl := r1_lt hown' g rfl
  have hxl : xs.length = k := by simpa using hown.1
  have hsz : (w3.setCell ⟨X, 1, none⟩ (.slice (some ⟨g, 0, none⟩) (k + 1) cap)).heap.size = w3.heap.size := by simp
  have qs : ∀ b, b ≠ X → (w3.setCell ⟨X, 1, none⟩ (.slice (some ⟨g, 0, none⟩) (k + 1) cap)).heap[b]? = w3.heap[b]? := fun b hb => Below.heap_setCell _ _ _ _ hb
  have q3 : ∀ b, b < w2.heap.size → v.ownBlock ≠ some b → w3.heap[b]? = w2.heap[b]? := fun b hb hne => by
    rw [hgrow.block b (by simp; omega) (fun e => hne e.symm), Below.heap_alloc _ _ _ hb]
  have q2 : ∀ b, b < wr.heap.size → v.ownBlock ≠ some b → w3.heap[b]? = wr.heap[b]? := fun b hb hno => by
    rw [q3 b (by omega) hno, hb2.block b hb]
  have hfar : ∀ b, v.ownBlock ≠ some b → b < w2.heap.size → (Value.slice (some ⟨g, 0, none⟩) (k + 1) cap).ownBlock ≠ some b := by
    intro b h1 h2 e
    have e : g = b := by simpa [Value.ownBlock] using e
    rcases hat with h3 | h3
    · exact h1 (by rw [h3, e])
    · omega
  have hXn : v.ownBlock ≠ some X := fun e => by have := hrl X e; omega
  have hbox3 := (q2 X hX hXn).trans h.box
  refine ⟨⟨?_, ?_, ?_, by rw [hsz]; have := h.below.size; omega, fun b hb => ?_⟩, ?_, xs ++ [kv], r1_keep hown' (fun g' hg' => qs g' (by have := r1_lt hown' g' hg'; omega)), fun j hj hx => ?_⟩
  · show w3.os = w1.os
    rw [hgrow.os]; exact hb2.os.trans h.below.os
  · show w3.tape = w1.tape
    rw [hgrow.tape]; exact hb2.tape.trans h.below.tape
  · show w3.output = w1.output
    rw [hgrow.output]; exact hb2.output.trans h.below.output
  · rw [qs b (by omega), q2 b (by omega) (fun e => by have := hrl b e; omega)]; exact h.below.block b hb
  · simp [World.setCell, Array.getElem?_modify, hbox3]
  · by_cases hjk : j < k
    · have hxj : j < xs.length := by omega
      rw [List.getElem_append_left hxj]
      refine (hxs j hj hxj).keep (fun b hb => ?_) (fun b hb => ?_)
      · rcases hb with hb | ⟨hb1, hb2, hb3⟩
        · have := hS b hb
          rw [qs b (by omega)]
          exact q2 b (by omega) (fun e => by have := hrl b e; omega)
        · rw [qs b (by omega)]
          exact q2 b hb2 hb3
      · rcases hb with hb | ⟨hb1, hb2, hb3⟩
        · exact .inl hb
        · exact .inr ⟨hb1, by rw [hsz]; omega, hfar b hb3 (by omega)⟩
    · have hjk' : j = k := by simp at hx; omega
      subst hjk'
      have : (xs ++ [kv])[j] = kv := by simp [← hxl]
      rw [this]
      refine hin.keep (fun b hb => ?_) (fun b hb => ?_)
      · rcases hb with hb | hb
        · have := hS b hb
          rw [qs b (by omega)]
          exact q3 b (by omega) (fun e => by have := hrl b e; omega)
        · rw [qs b (by omega)]
          exact q3 b hb.2 (fun e => by have := hrl b e; omega)
      · rcases hb with hb | hb
        · exact .inl hb
        · exact .inr ⟨by omega, by rw [hsz]; omega, hfar b (fun e => by have := hrl b e; omega) hb.2⟩

end Go.Proofs.YtpalkdcgbbbmeaaGreatDoor
