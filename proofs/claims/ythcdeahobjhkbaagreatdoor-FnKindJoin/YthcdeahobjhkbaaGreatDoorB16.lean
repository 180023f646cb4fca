/-
  Several texts in one, in their order.
-/
import Derived.Test.YthcdeahobjhkbaaGreatDoorB1
import Derived.Laws.IdiomStrings
import Derived.Deep.QuietTactic
import Derived.BigQuiet
import Derived.Lib.ItoaNum
import Derived.Lib.ItoaLen
import Derived.Lib.ItoaMem
import Derived.Laws.Closers25b
import Derived.Test.YthcdeahobjhkbaaGreatDoorDec
import Derived.WalkSmall
import Derived.LoopTactic
import Derived.Test.YthcdeahobjhkbaaGreatDoorB14
import Derived.Test.YthcdeahobjhkbaaGreatDoorB12
import Derived.Deep.AppendLies
import Derived.Deep.RegionLaw
import Derived.Test.YthcdeahobjhkbaaGreatDoorB13

/-
  The specification's reader of trees: its block; look, eat.
-/
namespace Go.Proofs.YthcdeahobjhkbaaGreatDoor
open Go.RowKit

theorem Near.drewN {R : Nat} {a w : World} (h : Near R a w) (n : Nat) : Near R a (w.drewN n) := ⟨h.os, h.tape, h.output, h.size, h.block⟩

end Go.Proofs.YthcdeahobjhkbaaGreatDoor

/-
  Plain mathematics: a tree of n levels as one of n + 1; the number that num reads.
-/
namespace Go.Proofs.YthcdeahobjhkbaaGreatDoor
open Go.RowKit

/-- A tree of at most n levels is one of at most n + 1. -/
def upT : (n : Nat) → T n → T (n + 1)
  | 0, t => Empty.elim t
  | n + 1, t => (⟨Nd.sort t, Nd.num t, Nd.text t, Nd.names t, (Nd.kids t).map (upT n)⟩ : Nd (T (n + 1)))

theorem RowIn.map {α β : Type} {S : Nat → Prop} {w : World} {R : α → Value → Value → Value → Value → Value → Prop} {R' : β → Value → Value → Value → Value → Value → Prop} {l : List α} {v : Value} (f : α → β) (h : RowIn S w R l v)
    (hR : ∀ x c0 c1 c2 c3 c4, x ∈ l → R x c0 c1 c2 c3 c4 → R' (f x) c0 c1 c2 c3 c4) : RowIn S w R' (l.map f) v := by
  obtain ⟨ao, cap, hv, hl, hc⟩ := h
  refine ⟨ao, cap, by rw [hv, List.length_map], by rw [List.length_map]; exact hl, fun hne => ?_⟩
  obtain ⟨b, off, ha, hB, hcell⟩ := hc (by intro e; apply hne; rw [e]; rfl)
  refine ⟨b, off, ha, hB, fun i hi => ?_⟩
  have hi' : i < l.length := by simpa using hi
  obtain ⟨c0, c1, c2, c3, c4, h0, h1, h2, h3, h4, hr⟩ := hcell i hi'
  refine ⟨c0, c1, c2, c3, c4, h0, h1, h2, h3, h4, ?_⟩
  rw [List.getElem_map]
  exact hR _ _ _ _ _ _ (List.getElem_mem hi') hr

theorem TreeIn.up {S : Nat → Prop} {w : World} : ∀ {n : Nat} {t : T n} {c0 c1 c2 c3 c4 : Value}, TreeIn S w n t c0 c1 c2 c3 c4 → TreeIn S w (n + 1) (upT n t) c0 c1 c2 c3 c4 := by
  intro n
  induction n with
  | zero => intro t c0 c1 c2 c3 c4 h; exact h.elim
  | succ n ih =>
    intro t c0 c1 c2 c3 c4 h
    obtain ⟨h0, h1, h2, hs, hw0, hw1, h3, h4⟩ := h
    exact ⟨h0, h1, h2, hs, hw0, hw1, h3, h4.map (upT n) fun x _ _ _ _ _ _ hx => ih hx⟩

end Go.Proofs.YthcdeahobjhkbaaGreatDoor

/-
  What the specification draws: trees of so many levels; ways out.
-/
namespace Go.Proofs.YthcdeahobjhkbaaGreatDoor
open Go.RowKit

/-- A tree has at most d levels, and is not broad. -/
def depT : (m : Nat) → T m → Nat → Prop
  | 0, _, _ => False
  | m + 1, t, d => 1 ≤ d ∧ (Nd.names t).length ≤ 1000 ∧ (∀ s, s ∈ Nd.names t → s.size ≤ 10000) ∧ (Nd.kids t).length ≤ 1000 ∧ ∀ k, k ∈ Nd.kids t → depT m k (d - 1)

theorem depT.mono : ∀ {m : Nat} {k : T m} {d e : Nat}, depT m k d → d ≤ e → depT m k e := by
  intro m
  induction m with
  | zero => intro k d e h; exact h.elim
  | succ m ih =>
    intro k d e h hde
    exact ⟨Nat.le_trans h.1 hde, h.2.1, h.2.2.1, h.2.2.2.1, fun x hx => ih (h.2.2.2.2 x hx) (by omega)⟩

theorem depT.leaf (m : Nat) (x y : Int) (s : ByteArray) (d : Nat) : depT (m + 1) (⟨x, y, s, [], []⟩ : Nd (T m)) (d + 1) := ⟨by omega, by simp, fun s h => (by cases h), by simp, fun k h => (by cases h)⟩
theorem depT.one {m : Nat} {x y : Int} {s : ByteArray} {d : Nat} {k : T m} (h : depT m k d) : depT (m + 1) (⟨x, y, s, [], [k]⟩ : Nd (T m)) (d + 1) := ⟨by omega, by simp, fun s h => (by cases h), by simp, fun y hy => (by have e : y = k := (by simpa using hy); rw [e]; simpa using h)⟩

theorem sumL_ge {α : Type} (f : α → Nat) (l : List α) (h : ∀ x, x ∈ l → 1 ≤ f x) : l.length ≤ sumL f l := by
  induction l with
  | nil => exact Nat.zero_le _
  | cons a l ih =>
    have h1 := h a (List.mem_cons_self ..)
    have h2 := ih fun x hx => h x (List.mem_cons_of_mem _ hx)
    simp only [sumL, List.length_cons]; omega

theorem sumL_mem {α : Type} (f : α → Nat) (l : List α) (x : α) (h : x ∈ l) : f x ≤ sumL f l := by
  induction l with
  | nil => cases h
  | cons a l ih =>
    rcases List.mem_cons.1 h with rfl | h
    · simp only [sumL]; omega
    · have := ih h
      simp only [sumL]; omega

/-- The kids of a schema that is ok are few. -/
theorem kids_few {m : Nat} {t : K (m + 1)} {d : Int} (hg : goodK (m + 1) t d = true) (hc : cntK (m + 1) t ≤ 40) : (Kd.kids t).length ≤ 39 ∧ ∀ k, k ∈ Kd.kids t → goodK m k (d + 1) = true ∧ cntK m k ≤ 40 := by
  simp only [goodK, Bool.and_eq_true] at hg
  have hk := List.all_eq_true.1 hg.2
  simp only [cntK] at hc
  have h1 := sumL_ge (fun k => cntK m k) (Kd.kids t) fun k hm => cntK_pos m k _ (hk k hm)
  refine ⟨by omega, fun k hm => ⟨hk k hm, ?_⟩⟩
  have := sumL_mem (fun k => cntK m k) (Kd.kids t) k hm
  omega

end Go.Proofs.YthcdeahobjhkbaaGreatDoor

/-
  What the specification draws: l5Wider, its first part.
-/
namespace Go.Proofs.YthcdeahobjhkbaaGreatDoor
open Go.RowKit

/-- The way out: the answer's block is the second new one. -/
theorem wd_exit {m d R L cap p p' q : Nat} {ao : Option Addr} {w W : World} {k : K m} {g0 g1 g2 : Value} (h : Dr w R ao L cap p) (hn : Near R w W) (hb : W.heap[R]? = some (.cells #[.slice ao L cap, .int .i64 (p' : Int)] 70 (0, 0))) (hp : p' ≤ p + q)
    (hk : KindIn (fun b => w.heap.size + 2 ≤ b ∧ b < W.heap.size) W m k g0 g1 g2) (hd : depK m k d) :
    DKPost m d w R ao L cap p q (.returned (.agg #[g0, g1, g2])) (put3 W (w.heap.size + 1) 0 g0 g1 g2) := by
  have hR := h.lt
  have qq : ∀ b, b ≠ w.heap.size + 1 → (put3 W (w.heap.size + 1) 0 g0 g1 g2).heap[b]? = W.heap[b]? := fun b h => put3_other h
  have hz : (put3 W (w.heap.size + 1) 0 g0 g1 g2).heap.size = W.heap.size := put3_size
  have hn' : Near R w (put3 W (w.heap.size + 1) 0 g0 g1 g2) := ⟨hn.os, hn.tape, hn.output, by rw [hz]; exact hn.size, fun b hb hne => (qq b (by omega)).trans (hn.block b hb hne)⟩
  exact ⟨hn', p', k, _, _, _, hp, h.keep hn' ((qq R (by omega)).trans hb), rfl, hk.keep (fun b hb => qq b (by omega)) (fun b hb => ⟨by omega, by rw [hz]; exact hb.2⟩), hd⟩

/-- l5Wider at schemas of at most d levels that are ok but for their levels. -/
def WiderSaid (d : Nat) : Prop := ∀ (n m R : Nat) (ao : Option Addr) (L cap p : Nat) (S : Nat → Prop) (k : K n) (g : Int) (c0 c1 c2 : Value) (w : World), 2 * d + 3 ≤ m → depK n k d → goodK n k g = true → cntK n k ≤ 40 → KindIn S w n k c0 c1 c2 →
  (∀ b, S b → b < w.heap.size ∧ b ≠ R) → Dr w R ao L cap p → p + 700 * cntK n k ≤ 900000 →
  Calls Tryz.prog 14 #[.pointer (some ⟨R, 0, none⟩), .agg #[c0, c1, c2]] w (DKPost m (2 * d + 3) w R ao L cap p (700 * cntK n k))

/-- What was made ahead of the second loop stays, and its rows are new. -/
structure Old (A : Nat) (u wr : World) (nv kv : Value) : Prop where
  lo1 : ∀ b, nv.ownBlock = some b → u.heap.size ≤ b
  lo2 : ∀ b, kv.ownBlock = some b → u.heap.size ≤ b
  size : u.heap.size ≤ wr.heap.size
  block : ∀ b, A ≤ b → b < u.heap.size → wr.heap[b]? = u.heap[b]?

theorem Old.near {A R : Nat} {u wr W : World} {nv kv : Value} (h : Old A u wr nv kv) (hR : R < A) (hn : Near R wr W) : Old A u W nv kv :=
  ⟨h.lo1, h.lo2, Nat.le_trans h.size hn.size, fun b h1 h2 => (hn.block b (Nat.lt_of_lt_of_le h2 h.size) (by omega)).trans (h.block b h1 h2)⟩

theorem Old.name {A X g cap ln : Nat} {u W Wa W2 : World} {nv kv : Value} {one : Obj} (h : Old A u W nv kv) (hX : X < A) (ha : Wa.heap = W.heap.push one) (hgrow : Wa.grownBy W2 nv.ownBlock) (hat : nv.ownBlock = some g ∨ g = W.heap.size + 1) :
    Old A u (W2.setCell ⟨X, 1, none⟩ (.slice (some ⟨g, 0, none⟩) ln cap)) (.slice (some ⟨g, 0, none⟩) ln cap) kv := by
  have hz := hgrow.size
  rw [ha] at hz
  simp at hz
  have hs := h.size
  refine ⟨fun b hb => ?_, h.lo2, by simp; omega, fun b h1 h2 => ?_⟩
  · have e : g = b := by simpa [Value.ownBlock] using hb
    subst e
    rcases hat with h3 | h3
    · exact h.lo1 g h3
    · omega
  · rw [Below.heap_setCell _ _ _ _ (by show b ≠ X; omega), hgrow.block b (by rw [ha]; simp; omega) (fun e => by have := h.lo1 b e.symm; omega), ha, Array.getElem?_push_lt (by omega), ← Array.getElem?_eq_getElem]
    exact h.block b h1 h2

theorem Old.kid {A X R g cap ln : Nat} {u W W1 Wa W2 : World} {nv kv : Value} {one : Obj} (h : Old A u W nv kv) (hX : X < A) (hR : R < A) (hn : Near R W W1) (ha : Wa.heap = W1.heap.push one) (hgrow : Wa.grownBy W2 kv.ownBlock) (hat : kv.ownBlock = some g ∨ g = W1.heap.size + 1) :
    Old A u (W2.setCell ⟨X, 2, none⟩ (.slice (some ⟨g, 0, none⟩) ln cap)) nv (.slice (some ⟨g, 0, none⟩) ln cap) := by
  have h := h.near hR hn
  have hz := hgrow.size
  rw [ha] at hz
  simp at hz
  have hs := h.size
  refine ⟨h.lo1, fun b hb => ?_, by simp; omega, fun b h1 h2 => ?_⟩
  · have e : g = b := by simpa [Value.ownBlock] using hb
    subst e
    rcases hat with h3 | h3
    · exact h.lo2 g h3
    · omega
  · rw [Below.heap_setCell _ _ _ _ (by show b ≠ X; omega), hgrow.block b (by rw [ha]; simp; omega) (fun e => by have := h.lo2 b e.symm; omega), ha, Array.getElem?_push_lt (by omega), ← Array.getElem?_eq_getElem]
    exact h.block b h1 h2

theorem zeroD_W {w : World} {x : Array Value} {N : Nat} (h : w.heap[N]? = some (.cells x 26 (0, 0))) (i : Nat) (v : Value) (hv : x[i]? = some v) : w.cell? ⟨N, i, none⟩ = some v := by
  simp [World.cell?, h, hv]

end Go.Proofs.YthcdeahobjhkbaaGreatDoor
