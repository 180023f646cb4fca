/-
  The program's widenings as function values: what it means that one widens; rows of widened trees.
-/
import Derived.Test.YtpalkdcgbbbmeaaGreatDoorWD1
import Derived.Test.YtpalkdcgbbbmeaaGreatDoorTMade2
import Derived.Test.YtpalkdcgbbbmeaaGreatDoorKFind
namespace Go.Proofs.YtpalkdcgbbbmeaaGreatDoor
open Go.RowKit

/-- A function value that makes of each value v for which R tells a tree just that tree; S: the blocks that it leans on. -/
def Fv (S : Nat → Prop) (m : Nat) (w : World) (fv : Value) (R : (Nat → Prop) → World → Value → T m → Prop) : Prop :=
  ∃ (f : Nat) (cap : Array Value), fv = .func (.func f) #[] cap ∧ (∀ (args : Array Value) (W : World), (callFunc f args).run Tryz.prog W = .ok (.enter f args) W) ∧
    ∀ (S0 : Nat → Prop) (W : World), (∀ b, S b → S0 b) → (∀ b, S0 b → b < W.heap.size) → Same S w W → ∀ (v : Value) (t' : T m), R S0 W v t' → ∀ args : Array Value, args = #[v] ++ cap →
      Calls Tryz.prog f args W fun e w' => Below W.heap.size W w' ∧ ∃ v', e = .returned v' ∧ InnerT (fun b => S0 b ∨ (W.heap.size ≤ b ∧ b < w'.heap.size)) w' m t' v'

theorem Fv.keep {S S' : Nat → Prop} {m : Nat} {w w' : World} {fv : Value} {R : (Nat → Prop) → World → Value → T m → Prop} (h : Fv S m w fv R) (hs : Same S w w') (hS : ∀ b, S b → S' b) : Fv S' m w' fv R := by
  obtain ⟨f, cap, rfl, eg, hc⟩ := h
  exact ⟨f, cap, rfl, eg, fun S0 W h0 hB hW v t' hR args ha => hc S0 W (fun b hb => h0 b (hS b hb)) hB (fun b hb => (hW b (hS b hb)).trans (hs b hb)) v t' hR args ha⟩

/-- A value is a tree of the schema a, and t' is what comes of widening it into b. -/
def WidR (m : Nat) (b : K m) (n : Nat) (a : K n) (S : Nat → Prop) (W : World) (v : Value) (t' : T m) : Prop :=
  ∃ (p : Nat) (t : T p) (e : Int), InnerT S W p t v ∧ goodT p t e = true ∧ hasK n a p t = true ∧ t' = widT m b n a p t

/-- Nothing is asked of the value; nothing comes of it. -/
def NoneR (m : Nat) (b : K m) (_ : Nat → Prop) (_ : World) (_ : Value) (t' : T m) : Prop := t' = noneT m b

theorem wid_next {S : Nat → Prop} {M n : Nat} {ks : List (T n)} {w1 wr w2 w3 : World} {k g cap : Nat} {v kv : Value} {xs : List Value} {one : Obj} (h : MadeTLoop S M n ks w1 k v wr) (hk : k < ks.length) (hS : ∀ b, S b → b < M) (hMr : M ≤ wr.heap.size)
    (hown : wr.ownsRow M 71 1 v k xs) (hxs : ∀ j (h : j < ks.length) (hx : j < xs.length), InnerT (fun b => S b ∨ (M ≤ b ∧ b < wr.heap.size ∧ v.ownBlock ≠ some b)) wr n ks[j] xs[j])
    (hb2 : Below wr.heap.size wr w2) (hin : InnerT (fun b => S b ∨ (wr.heap.size ≤ b ∧ b < w2.heap.size)) w2 n ks[k] kv)
    (hown' : w3.ownsRow M 71 1 (.slice (some ⟨g, 0, none⟩) (k + 1) cap) (k + 1) (xs ++ [kv])) (hgrow : (w2.alloc one).grownBy w3 v.ownBlock) (hat : v.ownBlock = some g ∨ g = w2.heap.size + 1) :
    MadeTLoop S M n ks w1 (k + 1) (.slice (some ⟨g, 0, none⟩) (k + 1) cap) w3 := by
  have hz2 := hb2.size
  have hz3 := hgrow.size
  simp at hz3
  have hrl : ∀ b, v.ownBlock = some b → M ≤ b ∧ b < wr.heap.size := r1_lt hown
  have hxl : xs.length = k := by simpa using hown.1
  have q3 : ∀ b, b < w2.heap.size → v.ownBlock ≠ some b → w3.heap[b]? = w2.heap[b]? := fun b hb hne => by
    rw [hgrow.block b (by simp; omega) (fun e => hne e.symm), Below.heap_alloc _ _ _ hb]
  have q2 : ∀ b, b < wr.heap.size → v.ownBlock ≠ some b → w3.heap[b]? = wr.heap[b]? := fun b hb hno => by
    rw [q3 b (by omega) hno, hb2.block b hb]
  have hfar : ∀ b, v.ownBlock ≠ some b → b < w2.heap.size → (Value.slice (some ⟨g, 0, none⟩) (k + 1) cap).ownBlock ≠ some b := by
    intro b h1 h2 e
    have e : g = b := by simpa [Value.ownBlock] using e
    rcases hat with h3 | h3
    · exact h1 (by rw [h3, e])
    · omega
  refine ⟨⟨?_, ?_, ?_, by have := h.below.size; omega, fun b hb => ?_⟩, xs ++ [kv], hown', fun j hj hx => ?_⟩
  · rw [hgrow.os]; exact hb2.os.trans h.below.os
  · rw [hgrow.tape]; exact hb2.tape.trans h.below.tape
  · rw [hgrow.output]; exact hb2.output.trans h.below.output
  · rw [q2 b (by omega) (fun e => by have := hrl b e; omega)]; exact h.below.block b hb
  · by_cases hjk : j < k
    · have hxj : j < xs.length := by omega
      rw [List.getElem_append_left hxj]
      refine (hxs j hj hxj).keep (fun b hb => ?_) (fun b hb => ?_)
      · rcases hb with hb | ⟨hb1, hb2, hb3⟩
        · have := hS b hb
          exact q2 b (by omega) (fun e => by have := hrl b e; omega)
        · exact q2 b hb2 hb3
      · rcases hb with hb | ⟨hb1, hb2, hb3⟩
        · exact .inl hb
        · exact .inr ⟨hb1, by omega, hfar b hb3 (by omega)⟩
    · have hjk' : j = k := by simp at hx; omega
      subst hjk'
      have : (xs ++ [kv])[j] = kv := by simp [← hxl]
      rw [this]
      refine hin.keep (fun b hb => ?_) (fun b hb => ?_)
      · rcases hb with hb | hb
        · have := hS b hb
          exact q3 b (by omega) (fun e => by have := hrl b e; omega)
        · exact q3 b hb.2 (fun e => by have := hrl b e; omega)
      · rcases hb with hb | hb
        · exact .inl hb
        · exact .inr ⟨by omega, by omega, hfar b (fun e => by have := hrl b e; omega) hb.2⟩

end Go.Proofs.YtpalkdcgbbbmeaaGreatDoor
