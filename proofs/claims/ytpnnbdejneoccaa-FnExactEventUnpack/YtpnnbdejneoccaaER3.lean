/-
  The specification's reader of bytes: a tree, its ways out.
-/
import Derived.Test.YtpnnbdejneoccaaB15
import Derived.Test.YtpnnbdejneoccaaB8
import Derived.Test.YtpnnbdejneoccaaB5
import Derived.Deep.Cut
import Derived.Deep.CutRange
import Derived.WalkSmall
import Derived.LoopTactic
namespace Go.Proofs.Ytpnnbdejneoccaa
open Go.RowKit

/-- What reading a tree makes. -/
def Tr4Post (m : Nat) (d : Int) (w : World) (R : Nat) (ao : Option Addr) (l : List UInt8) (cap i : Nat) (bad : Bool) (e : Ending) (w' : World) : Prop :=
  Near R w w' ∧ ∃ (t : T m) (c0 c1 c2 c3 c4 : Value) (i' : Nat) (bad' : Bool), e = .returned (.agg #[c0, c1, c2, c3, c4]) ∧ TreeIn (fun b => w.heap.size ≤ b ∧ b < w'.heap.size) w' m t c0 c1 c2 c3 c4 ∧ R4 w' R ao l cap i' bad' ∧ treeR m d l i bad t i' bad'

theorem wf_wide {x : Int} (h1 : -99999999999 ≤ x) (h2 : x ≤ 99999999999) : (Lit.int .i64 x).wf = true := by
  simp only [Lit.wf, Bool.and_eq_true, decide_eq_true_eq]
  exact ⟨by have : IntKind.i64.min = -9223372036854775808 := rfl
            omega, by have : IntKind.i64.max = 9223372036854775807 := rfl
                      omega⟩

theorem tr_exit {m : Nat} {d : Int} {R cap i i' N : Nat} {bad bad' : Bool} {ao : Option Addr} {l : List UInt8} {w W : World} {t : T m} {g0 g1 g2 g3 g4 : Value} (h : R4 w R ao l cap i bad) (hN : N = w.heap.size) (hn : Near R w W) (hb : R4 W R ao l cap i' bad') (hk : TreeIn (fun b => N + 1 ≤ b ∧ b < W.heap.size) W m t g0 g1 g2 g3 g4) (hr : treeR m d l i bad t i' bad') :
    Tr4Post m d w R ao l cap i bad (.returned (.agg #[g0, g1, g2, g3, g4])) (put5 W N 0 g0 g1 g2 g3 g4) := by
  have hR := h.lt
  have qq : ∀ b, b ≠ N → (put5 W N 0 g0 g1 g2 g3 g4).heap[b]? = W.heap[b]? := fun b h => put5_other h
  have hz : (put5 W N 0 g0 g1 g2 g3 g4).heap.size = W.heap.size := put5_size
  have hbl : Below 0 W (put5 W N 0 g0 g1 g2 g3 g4) := put5_below (Below.refl 0 W) (Nat.zero_le _)
  have hn' : Near R w (put5 W N 0 g0 g1 g2 g3 g4) := ⟨by rw [hbl.os]; exact hn.os, by rw [hbl.tape]; exact hn.tape, by rw [hbl.output]; exact hn.output, by rw [hz]; exact hn.size, fun b hb hne => (qq b (by omega)).trans (hn.block b hb hne)⟩
  exact ⟨hn', t, _, _, _, _, _, i', bad', rfl, hk.keep (fun b hb => qq b (by omega)) (fun b hb => ⟨by omega, by rw [hz]; exact hb.2⟩), h.keep hn' ((qq R (by omega)).trans hb.box) hb.le, hr⟩

theorem leafR_in (S : Nat → Prop) (w : World) (m : Nat) (x y : Int) (s : ByteArray) (hx : (Lit.int .i64 x).wf = true) (hy : (Lit.int .i64 y).wf = true) (hs : s.size ≤ 10000) : TreeIn S w (m + 1) (⟨x, y, s, [], []⟩ : Nd (T m)) (.int .i64 x) (.int .i64 y) (.string s) (.slice none 0 0) (.slice none 0 0) :=
  ⟨rfl, rfl, rfl, by unfold maxLen; show s.size ≤ _; omega, hx, hy, ⟨none, 0, rfl, by simp [maxLen], fun s h => (by cases h), fun h => absurd rfl h⟩, ⟨none, 0, rfl, by simp [maxLen], fun h => absurd rfl h⟩⟩

/-- What is gathered, as a tree. -/
theorem manyR_in {R X n : Nat} {w wr : World} {so : Int} {ns : List ByteArray} {ks : List (T n)} {nv kv : Value} (h : Many R X n w wr so ns ks nv kv) (hso : (Lit.int .i64 so).wf = true) (hns : ns.length ≤ 20000) (hks : ks.length ≤ 20000) :
    TreeIn (fun b => X ≤ b ∧ b < wr.heap.size) wr (n + 1) (⟨so, 0, ByteArray.empty, ns, ks⟩ : Nd (T n)) (.int .i64 so) (.int .i64 0) (.string ByteArray.empty) nv kv := by
  obtain ⟨xs, hxs, hk⟩ := h.kids
  refine ⟨rfl, rfl, rfl, by simp [maxLen], hso, (by rfl : (Lit.int .i64 0).wf = true), ?_, ?_⟩
  · refine strs_of_owns h.names hns h.short fun g hg => ?_
    have := owns_lt h.names g hg
    exact ⟨by omega, by omega⟩
  · refine row_of_owns hxs hks (fun g hg => ?_) fun j hj => ?_
    · have := owns_lt hxs g hg
      exact ⟨by omega, by omega⟩
    · obtain ⟨c0, c1, c2, c3, c4, hc, ht⟩ := hk j hj
      refine ⟨c0, c1, c2, c3, c4, hc, ht.keep (fun b hb => rfl) (fun b hb => ?_)⟩
      have := hb.1
      have := hb.2.1
      exact ⟨by omega, by omega⟩

theorem zeroR_cells {w : World} {N : Nat} {so : Value} {nv kv : Value} (h : w.heap[N]? = some (.cells #[so, .int .i64 0, .string ⟨#[]⟩, nv, kv] 33 (0, 0))) :
    (w.cell? ⟨N, 0, none⟩ = some so ∧ w.cell? ⟨N, 1, none⟩ = some (.int .i64 0) ∧ w.cell? ⟨N, 2, none⟩ = some (.string ⟨#[]⟩) ∧ w.cell? ⟨N, 3, none⟩ = some nv ∧ w.cell? ⟨N, 4, none⟩ = some kv) ∧
      w.frozen? ⟨N, 0, none⟩ = false ∧ w.frozen? ⟨N, 1, none⟩ = false ∧ w.frozen? ⟨N, 2, none⟩ = false ∧ w.frozen? ⟨N, 3, none⟩ = false ∧ w.frozen? ⟨N, 4, none⟩ = false := by
  refine ⟨⟨?_, ?_, ?_, ?_, ?_⟩, ?_, ?_, ?_, ?_, ?_⟩ <;> simp [World.cell?, World.frozen?, h]

theorem box_afterR {R X k z : Nat} {e : TypeId} {v : Value} {xs : List Value} {W w2 w3 : World} {o : Obj} {c : Obj} (h : W.ownsRow (X + 1) e z v k xs) (hRX : R < X) (hRl : R < w2.heap.size) (hg : (w2.alloc o).grownBy w3 v.ownBlock) (u : Value) (q : Nat) (hc : w2.heap[R]? = some c) : (w3.setCell ⟨X, q, none⟩ u).heap[R]? = some c := by
  rw [Below.heap_setCell _ _ _ _ (by show R ≠ X; omega), hg.block R (by simp; omega) (fun e => by have := owns_lt h R e.symm; omega), Below.heap_alloc _ _ _ hRl]
  exact hc

/-- How tree goes on behind its first byte. -/
structure Tr4 (m R : Nat) (ao : Option Addr) (l : List UInt8) (cap i : Nat) (bad : Bool) (w w1 W2 : World) (v i1 : Nat) (bad1 : Bool) : Prop where
  many : Many R w1.heap.size m w1 W2 (v : Int) [] [] (.slice none 0 0) (.slice none 0 0)
  lt : w.heap.size < w1.heap.size
  sz2 : W2.heap.size = w1.heap.size + 1
  near : Near R w w1
  zero : w1.heap[w.heap.size]? = some (.cells #[.int .i64 0, .int .i64 0, .string ⟨#[]⟩, .slice none 0 0, .slice none 0 0] 33 (0, 0))
  r0 : R4 w R ao l cap i bad
  r2 : R4 W2 R ao l cap i1 bad1
  one : oneR l i bad v i1 bad1
  v255 : v ≤ 255

theorem tr4 (m : Nat) {R : Nat} {ao : Option Addr} {l : List UInt8} {cap i : Nat} {bad : Bool} {w W0 w1 W2 : World} {v i1 : Nat} {bad1 : Bool} (h : R4 w R ao l cap i bad) (h0 : W0 = w.alloc (.cells #[.int .i64 0, .int .i64 0, .string ⟨#[]⟩, .slice none 0 0, .slice none 0 0] 33))
    (hn : Near R W0 w1) (h1 : R4 w1 R ao l cap i1 bad1) (ho : oneR l i bad v i1 bad1) (hv : v ≤ 255) (h2 : W2 = w1.alloc (.cells #[.int .i64 (v : Int), .int .i64 0, .string ⟨#[]⟩, .slice none 0 0, .slice none 0 0] 33)) : Tr4 m R ao l cap i bad w w1 W2 v i1 bad1 := by
  have hR := h.lt
  have hz0 : W0.heap.size = w.heap.size + 1 := by rw [h0]; simp
  have hs := hn.size
  have hb0 : Below w.heap.size w W0 := by rw [h0]; exact (Below.refl _ _).alloc (Nat.le_refl _) _
  have hb2 : Below w1.heap.size w1 W2 := by rw [h2]; exact (Below.refl _ _).alloc (Nat.le_refl _) _
  refine ⟨⟨Near.of_below hb2, by rw [h2]; exact heap_alloc_new _ _, ⟨rfl, .inl ⟨rfl, rfl⟩⟩, by simp, ⟨[], ⟨rfl, .inl ⟨rfl, rfl⟩⟩, fun j hj => absurd hj (Nat.not_lt_zero _)⟩, fun b hb => by cases hb⟩, by omega, by rw [h2]; simp, (Near.of_below hb0).trans hn, ?_, h, h1.same hb2, ho, hv⟩
  rw [hn.block w.heap.size (by omega) (by omega), h0]
  exact heap_alloc_new _ _

/-- Way out with a leaf. -/
theorem tr_leaf {m : Nat} {d : Int} {R cap i i1 i2 : Nat} {bad bad1 bad2 : Bool} {ao : Option Addr} {l : List UInt8} {w w1 W2 wr W : World} {v : Nat} {y : Int} {s : ByteArray} (hS : Tr4 m R ao l cap i bad w w1 W2 v i1 bad1) (hn : Near R W2 wr) (hD : R4 wr R ao l cap i2 bad2) (hW : ∀ b, b ≠ w1.heap.size → W.heap[b]? = wr.heap[b]?) (hB : Below 0 wr W) (hz : W.heap.size = wr.heap.size)
    (hy : (Lit.int .i64 y).wf = true) (hs : s.size ≤ 10000) (hr : treeR (m + 1) d l i bad (⟨(v : Int), y, s, [], []⟩ : Nd (T m)) i2 bad2) :
    Tr4Post (m + 1) d w R ao l cap i bad (.returned (.agg #[.int .i64 (v : Int), .int .i64 y, .string s, .slice none 0 0, .slice none 0 0])) (put5 W w.heap.size 0 (.int .i64 (v : Int)) (.int .i64 y) (.string s) (.slice none 0 0) (.slice none 0 0)) := by
  have hR := hS.r0.lt
  have h1 := hS.many.near.size
  have h2 := hn.size
  have h3 := hS.lt
  have h4 := hS.v255
  have hnr : Near R w wr := (hS.near.trans hS.many.near).trans hn
  have hnW : Near R w W := ⟨by rw [hB.os]; exact hnr.os, by rw [hB.tape]; exact hnr.tape, by rw [hB.output]; exact hnr.output, by rw [hz]; exact hnr.size, fun b hb hne => (hW b (by omega)).trans (hnr.block b hb hne)⟩
  exact tr_exit hS.r0 rfl hnW (hS.r0.keep hnW ((hW R (by omega)).trans hD.box) hD.le) (leafR_in _ _ m (v : Int) y s (wf_wide (by omega) (by omega)) hy hs) hr

/-- Way out with what is gathered. -/
theorem tr_many {m : Nat} {d : Int} {R cap i i1 i2 : Nat} {bad bad1 bad2 : Bool} {ao : Option Addr} {l : List UInt8} {w w1 W2 wr : World} {v : Nat} {nv kv : Value} {ns : List ByteArray} {ks : List (T m)} (hS : Tr4 m R ao l cap i bad w w1 W2 v i1 bad1) (hM : Many R w1.heap.size m w1 wr (v : Int) ns ks nv kv) (hD : R4 wr R ao l cap i2 bad2) (hns : ns.length ≤ 1000) (hks : ks.length ≤ 1000)
    (hr : treeR (m + 1) d l i bad (⟨(v : Int), 0, ByteArray.empty, ns, ks⟩ : Nd (T m)) i2 bad2) :
    Tr4Post (m + 1) d w R ao l cap i bad (.returned (.agg #[.int .i64 (v : Int), .int .i64 0, .string ByteArray.empty, nv, kv])) (put5 wr w.heap.size 0 (.int .i64 (v : Int)) (.int .i64 0) (.string ByteArray.empty) nv kv) := by
  have h3 := hS.lt
  have h4 := hS.v255
  exact tr_exit hS.r0 rfl (hS.near.trans hM.near) hD ((manyR_in hM (wf_wide (by omega) (by omega)) (by omega) (by omega)).keep (fun _ _ => rfl) (fun b hb => ⟨by omega, hb.2⟩)) hr

end Go.Proofs.Ytpnnbdejneoccaa
