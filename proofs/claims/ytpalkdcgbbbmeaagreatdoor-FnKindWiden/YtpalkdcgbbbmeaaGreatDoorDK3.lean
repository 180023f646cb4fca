/-
  What the specification draws: of; a spoilt schema's contract; the sort spoilt.
-/
import Derived.Test.YtpalkdcgbbbmeaaGreatDoorDK1
import Derived.Test.YtpalkdcgbbbmeaaGreatDoorDOf
namespace Go.Proofs.YtpalkdcgbbbmeaaGreatDoor
open Go.RowKit

theorem wf_small (x : Nat) (h : x ≤ 1000000) : (Lit.int .i64 (x : Int)).wf = true := by
  simp only [Lit.wf, Bool.and_eq_true, decide_eq_true_eq]
  have a : IntKind.i64.min = -9223372036854775808 := by rfl
  have b : IntKind.i64.max = 9223372036854775807 := by rfl
  rw [a, b]; omega

/-- The schema of numbers. -/
def numK (m : Nat) : K (m + 1) := (⟨1, [], []⟩ : Kd (K m))

/-- What l5SpoilKind makes. -/
def SpoilPost (m : Nat) (S : Nat → Prop) (w : World) (R : Nat) (ao : Option Addr) (L cap p q : Nat) (e : Ending) (w' : World) : Prop :=
  Near R w w' ∧ ∃ (p' : Nat) (k : K m) (c0 c1 c2 : Value), p' ≤ p + q ∧ Dr w' R ao L cap p' ∧ e = .returned (.agg #[c0, c1, c2]) ∧ KindIn (fun b => S b ∨ (w.heap.size ≤ b ∧ b < w'.heap.size)) w' m k c0 c1 c2

/-- The way out: the answer's block is the second new one. -/
theorem sp_exit {m R L cap p p' q : Nat} {S : Nat → Prop} {ao : Option Addr} {w W : World} {k : K m} {g0 g1 g2 : Value} (h : Dr w R ao L cap p) (hS : ∀ b, S b → b < w.heap.size) (hn : Near R w W) (hb : W.heap[R]? = some (.cells #[.slice ao L cap, .int .i64 (p' : Int)] 105 (0, 0))) (hp : p' ≤ p + q)
    (hk : KindIn (fun b => S b ∨ (w.heap.size + 2 ≤ b ∧ b < W.heap.size)) W m k g0 g1 g2) :
    SpoilPost m S w R ao L cap p q (.returned (.agg #[g0, g1, g2])) (put3 W (w.heap.size + 1) 0 g0 g1 g2) := by
  have hR := h.lt
  have qq : ∀ b, b ≠ w.heap.size + 1 → (put3 W (w.heap.size + 1) 0 g0 g1 g2).heap[b]? = W.heap[b]? := fun b h => put3_other h
  have hz : (put3 W (w.heap.size + 1) 0 g0 g1 g2).heap.size = W.heap.size := put3_size
  have hn' : Near R w (put3 W (w.heap.size + 1) 0 g0 g1 g2) := ⟨hn.os, hn.tape, hn.output, by rw [hz]; exact hn.size, fun b hb hne => (qq b (by omega)).trans (hn.block b hb hne)⟩
  refine ⟨hn', p', k, _, _, _, hp, h.keep hn' ((qq R (by omega)).trans hb), rfl, hk.keep (fun b hb => ?_) (fun b hb => hb.elim .inl (fun h => .inr ⟨by omega, by rw [hz]; exact h.2⟩))⟩
  exact qq b (hb.elim (fun h => by have := hS b h; omega) (fun h => by omega))

/-- A schema within lists and maybes, j of them, in block X. -/
def ChainK (R X : Nat) (w wr : World) (j : Nat) : Prop :=
  ∃ (so : Int) (kv : Value), Near2 R X w wr ∧ wr.heap[X]? = some (.cells #[.int .i64 so, .slice none 0 0, kv] 26 (0, 0)) ∧ ∀ M, j + 1 ≤ M → ∃ k : K M, KindIn (fun b => w.heap.size ≤ b ∧ b < wr.heap.size) wr M k (.int .i64 so) (.slice none 0 0) kv

theorem ChainK.start {R X : Nat} {w : World} (h : w.heap[X]? = some (.cells #[.int .i64 3, .slice none 0 0, .slice none 0 0] 26 (0, 0))) : ChainK R X w w 0 :=
  ⟨3, _, Near2.refl _ _ _, h, fun M hM => by
    obtain ⟨M', rfl⟩ : ∃ M', M = M' + 1 := ⟨M - 1, by omega⟩
    exact ⟨(⟨3, [], []⟩ : Kd (K M')), leafD_in _ _ M' 3 rfl⟩⟩

theorem ChainK.drew {R X j : Nat} {w W : World} (h : ChainK R X w W j) : ChainK R X w W.drew j := by
  obtain ⟨so, kv, h1, h2, h3⟩ := h
  refine ⟨so, kv, ⟨h1.os, h1.tape, h1.output, h1.size, h1.block⟩, h2, fun M hM => ?_⟩
  obtain ⟨k, hk⟩ := h3 M hM
  exact ⟨k, KindIn.keep (w := W) (w' := W.drew) (fun _ _ => rfl) (fun _ h => h) hk⟩

/-- One more around it. -/
theorem ChainK.more {R X B j : Nat} {w wr W' : World} {so t : Int} {kv : Value} (hn : Near2 R X w wr) (hch : ∀ M, j + 1 ≤ M → ∃ k : K M, KindIn (fun b => w.heap.size ≤ b ∧ b < wr.heap.size) wr M k (.int .i64 so) (.slice none 0 0) kv) (hX : X < w.heap.size) (ht : (Lit.int .i64 t).wf = true)
    (ho : W'.os = wr.os ∧ W'.tape = wr.tape ∧ W'.output = wr.output) (hW : ∀ b, b < wr.heap.size → b ≠ X → W'.heap[b]? = wr.heap[b]?) (hB : wr.heap.size ≤ B ∧ B < W'.heap.size) (hBc : Box3 W' B (.int .i64 so) (.slice none 0 0) kv)
    (hbox : W'.heap[X]? = some (.cells #[.int .i64 t, .slice none 0 0, .slice (some ⟨B, 0, none⟩) 1 1] 26 (0, 0))) : ChainK R X w W' (j + 1) := by
  have hz := hn.size
  refine ⟨t, .slice (some ⟨B, 0, none⟩) 1 1, ⟨ho.1.trans hn.os, ho.2.1.trans hn.tape, ho.2.2.trans hn.output, by omega, fun b hb h1 h2 => (hW b (by omega) h2).trans (hn.block b hb h1 h2)⟩, hbox, fun M hM => ?_⟩
  obtain ⟨M', rfl⟩ : ∃ M', M = M' + 1 := ⟨M - 1, by omega⟩
  obtain ⟨k, hk⟩ := hch M' (by omega)
  refine ⟨(⟨t, [], [k]⟩ : Kd (K M')), oneD_in (t := k) ht ⟨by omega, by omega⟩ hBc.c0 hBc.c1 hBc.c2 ?_⟩
  exact hk.keep (fun b hb => hW b hb.2 (by omega)) (fun b hb => ⟨hb.1, by omega⟩)

/-- Both orders of the two new blocks. -/
theorem chain_orders {R X j : Nat} {w wr : World} {so t : Int} {kv : Value} (hn : Near2 R X w wr) (hch : ∀ M, j + 1 ≤ M → ∃ k : K M, KindIn (fun b => w.heap.size ≤ b ∧ b < wr.heap.size) wr M k (.int .i64 so) (.slice none 0 0) kv) (hX : X < w.heap.size) (ht : (Lit.int .i64 t).wf = true)
    (hbox : wr.heap[X]? = some (.cells #[.int .i64 so, .slice none 0 0, kv] 26 (0, 0))) (A : Obj) :
    ChainK R X w (((put3 wr X 0 (.int .i64 t) (.slice none 0 0) (.slice (some ⟨wr.heap.size + 1, 0, none⟩) 1 1)).alloc A).alloc (.cells #[.int .i64 so, .slice none 0 0, kv] 26)) (j + 1) ∧
    ChainK R X w (((put3 wr X 0 (.int .i64 t) (.slice none 0 0) (.slice (some ⟨wr.heap.size, 0, none⟩) 1 1)).alloc (.cells #[.int .i64 so, .slice none 0 0, kv] 26)).alloc A) (j + 1) := by
  have hz := hn.size
  have hsz : ∀ g, (put3 wr X 0 (.int .i64 t) (.slice none 0 0) g).heap.size = wr.heap.size := fun g => put3_size
  have hpx : ∀ g, (put3 wr X 0 (.int .i64 t) (.slice none 0 0) g).heap[X]? = some (.cells #[.int .i64 t, .slice none 0 0, g] 26 (0, 0)) := fun g => by simp [put3, World.setCell, Array.getElem?_modify, hbox]
  refine ⟨ChainK.more (B := wr.heap.size + 1) hn hch hX ht ⟨rfl, rfl, rfl⟩ (fun b hb hne => ?_) ⟨by omega, by simp [hsz]⟩ ?_ ?_, ChainK.more (B := wr.heap.size) hn hch hX ht ⟨rfl, rfl, rfl⟩ (fun b hb hne => ?_) ⟨Nat.le_refl _, by simp [hsz]; omega⟩ ?_ ?_⟩
  · rw [Below.heap_alloc _ _ _ (by simp [hsz]; omega), Below.heap_alloc _ _ _ (by rw [hsz]; exact hb)]; exact put3_other hne
  · have := Box3.new ((put3 wr X 0 (.int .i64 t) (.slice none 0 0) (.slice (some ⟨wr.heap.size + 1, 0, none⟩) 1 1)).alloc A) (.int .i64 so) (.slice none 0 0) kv 26
    simpa [hsz] using this
  · rw [Below.heap_alloc _ _ _ (by simp [hsz]; omega), Below.heap_alloc _ _ _ (by rw [hsz]; omega)]; exact hpx _
  · rw [Below.heap_alloc _ _ _ (by simp [hsz]; omega), Below.heap_alloc _ _ _ (by rw [hsz]; exact hb)]; exact put3_other hne
  · have := (Box3.new (put3 wr X 0 (.int .i64 t) (.slice none 0 0) (.slice (some ⟨wr.heap.size, 0, none⟩) 1 1)) (.int .i64 so) (.slice none 0 0) kv 26).keep ((Below.refl _ _).alloc (Nat.le_refl _) A)
    rw [hsz] at this; exact this
  · rw [Below.heap_alloc _ _ _ (by simp [hsz]; omega), Below.heap_alloc _ _ _ (by rw [hsz]; omega)]; exact hpx _

/-- l5SpoilKind at d levels. -/
def SpoilSaid (d : Nat) : Prop := ∀ (m R : Nat) (ao : Option Addr) (L cap p : Nat) (S : Nat → Prop) (k : K m) (c0 c1 c2 : Value) (w : World), d + 7 ≤ m → depK m k d → KindIn S w m k c0 c1 c2 → (∀ b, S b → b < w.heap.size ∧ b ≠ R) → Dr w R ao L cap p → p + 50 * d ≤ 1000000 →
  Calls Tryz.prog 27 #[.pointer (some ⟨R, 0, none⟩), .agg #[c0, c1, c2]] w (SpoilPost m S w R ao L cap p (50 * d))

end Go.Proofs.YtpalkdcgbbbmeaaGreatDoor
