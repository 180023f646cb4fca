/-
  What the specification draws: l5Wider, its first part.
-/
import Derived.Test.YtpalkdcgbbbmeaaGreatDoorDW0
import Derived.Test.YtpalkdcgbbbmeaaGreatDoorDT0
import Derived.Test.YtpalkdcgbbbmeaaGreatDoorDK1
import Derived.Test.YtpalkdcgbbbmeaaGreatDoorDK3
namespace Go.Proofs.YtpalkdcgbbbmeaaGreatDoor
open Go.RowKit

/-- The way out: the answer's block is the second new one. -/
theorem wd_exit {m d R L cap p p' q : Nat} {ao : Option Addr} {w W : World} {k : K m} {g0 g1 g2 : Value} (h : Dr w R ao L cap p) (hn : Near R w W) (hb : W.heap[R]? = some (.cells #[.slice ao L cap, .int .i64 (p' : Int)] 105 (0, 0))) (hp : p' ≤ p + q)
    (hk : KindIn (fun b => w.heap.size + 2 ≤ b ∧ b < W.heap.size) W m k g0 g1 g2) (hd : depK m k d) :
    DKPost m d w R ao L cap p q (.returned (.agg #[g0, g1, g2])) (put3 W (w.heap.size + 1) 0 g0 g1 g2) := by
  have hR := h.lt
  have qq : ∀ b, b ≠ w.heap.size + 1 → (put3 W (w.heap.size + 1) 0 g0 g1 g2).heap[b]? = W.heap[b]? := fun b h => put3_other h
  have hz : (put3 W (w.heap.size + 1) 0 g0 g1 g2).heap.size = W.heap.size := put3_size
  have hn' : Near R w (put3 W (w.heap.size + 1) 0 g0 g1 g2) := ⟨hn.os, hn.tape, hn.output, by rw [hz]; exact hn.size, fun b hb hne => (qq b (by omega)).trans (hn.block b hb hne)⟩
  exact ⟨hn', p', k, _, _, _, hp, h.keep hn' ((qq R (by omega)).trans hb), rfl, hk.keep (fun b hb => qq b (by omega)) (fun b hb => ⟨by omega, by rw [hz]; exact hb.2⟩), hd⟩

/-- l5Wider at schemas of at most d levels that are ok but for their levels. -/
def WiderSaid (d : Nat) : Prop := ∀ (n m R : Nat) (ao : Option Addr) (L cap p : Nat) (S : Nat → Prop) (k : K n) (g : Int) (c0 c1 c2 : Value) (w : World), 2 * d + 3 ≤ m → depK n k d → goodK n k g = true → cntK n k ≤ 40 → KindIn S w n k c0 c1 c2 →
  (∀ b, S b → b < w.heap.size ∧ b ≠ R) → Dr w R ao L cap p → p + 700 * cntK n k ≤ 900000 →
  Calls Tryz.prog 59 #[.pointer (some ⟨R, 0, none⟩), .agg #[c0, c1, c2]] w (DKPost m (2 * d + 3) w R ao L cap p (700 * cntK n k))

/-- What was made ahead of the second loop stays, and its rows are new. -/
structure Old (A : Nat) (u wr : World) (nv kv : Value) : Prop where
  lo1 : ∀ b, nv.ownBlock = some b → u.heap.size ≤ b
  lo2 : ∀ b, kv.ownBlock = some b → u.heap.size ≤ b
  size : u.heap.size ≤ wr.heap.size
  block : ∀ b, A ≤ b → b < u.heap.size → wr.heap[b]? = u.heap[b]?

theorem Old.near {A R : Nat} {u wr W : World} {nv kv : Value} (h : Old A u wr nv kv) (hR : R < A) (hn : Near R wr W) : Old A u W nv kv :=
  ⟨h.lo1, h.lo2, Nat.le_trans h.size hn.size, fun b h1 h2 => (hn.block b (Nat.lt_of_lt_of_le h2 h.size) (by omega)).trans (h.block b h1 h2)⟩

theorem Old.name {A X g cap ln : Nat} {u W Wa W2 : World} {nv kv : Value} {one : Obj} (h : Old A u W nv kv) (hX : X < A) (ha : Wa.heap = W.heap.push one) (hgrow : Wa.grownBy W2 nv.ownBlock) (hat : nv.ownBlock = some g ∨ g = W.heap.size + 1) :
    Old A u (W2.setCell ⟨X, 1, none⟩ (.slice (some ⟨g, 0, none⟩) ln cap)) (.slice (some ⟨g, 0, none⟩) ln cap) kv := by
  have hz := hgrow.size
  rw [ha] at hz
  simp at hz
  have hs := h.size
  refine ⟨fun b hb => ?_, h.lo2, by simp; omega, fun b h1 h2 => ?_⟩
  · have e : g = b := by simpa [Value.ownBlock] using hb
    subst e
    rcases hat with h3 | h3
    · exact h.lo1 g h3
    · omega
  · rw [Below.heap_setCell _ _ _ _ (by show b ≠ X; omega), hgrow.block b (by rw [ha]; simp; omega) (fun e => by have := h.lo1 b e.symm; omega), ha, Array.getElem?_push_lt (by omega), ← Array.getElem?_eq_getElem]
    exact h.block b h1 h2

theorem Old.kid {A X R g cap ln : Nat} {u W W1 Wa W2 : World} {nv kv : Value} {one : Obj} (h : Old A u W nv kv) (hX : X < A) (hR : R < A) (hn : Near R W W1) (ha : Wa.heap = W1.heap.push one) (hgrow : Wa.grownBy W2 kv.ownBlock) (hat : kv.ownBlock = some g ∨ g = W1.heap.size + 1) :
    Old A u (W2.setCell ⟨X, 2, none⟩ (.slice (some ⟨g, 0, none⟩) ln cap)) nv (.slice (some ⟨g, 0, none⟩) ln cap) := by
  have h := h.near hR hn
  have hz := hgrow.size
  rw [ha] at hz
  simp at hz
  have hs := h.size
  refine ⟨h.lo1, fun b hb => ?_, by simp; omega, fun b h1 h2 => ?_⟩
  · have e : g = b := by simpa [Value.ownBlock] using hb
    subst e
    rcases hat with h3 | h3
    · exact h.lo2 g h3
    · omega
  · rw [Below.heap_setCell _ _ _ _ (by show b ≠ X; omega), hgrow.block b (by rw [ha]; simp; omega) (fun e => by have := h.lo2 b e.symm; omega), ha, Array.getElem?_push_lt (by omega), ← Array.getElem?_eq_getElem]
    exact h.block b h1 h2

theorem zeroD_W {w : World} {x : Array Value} {N : Nat} (h : w.heap[N]? = some (.cells x 26 (0, 0))) (i : Nat) (v : Value) (hv : x[i]? = some v) : w.cell? ⟨N, i, none⟩ = some v := by
  simp [World.cell?, h, hv]

end Go.Proofs.YtpalkdcgbbbmeaaGreatDoor
