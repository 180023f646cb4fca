/-
  What the specification draws: trees of so many levels; ways out.
-/
import Derived.Test.YtpalkdcgbbbmeaaGreatDoorDT1
import Derived.Test.YtpalkdcgbbbmeaaGreatDoorKRdP
import Derived.Test.YtpalkdcgbbbmeaaGreatDoorTRdL
import Derived.Test.YtpalkdcgbbbmeaaGreatDoorBox
namespace Go.Proofs.YtpalkdcgbbbmeaaGreatDoor
open Go.RowKit

/-- A tree has at most d levels, and is not broad. -/
def depT : (m : Nat) → T m → Nat → Prop
  | 0, _, _ => False
  | m + 1, t, d => 1 ≤ d ∧ (Nd.names t).length ≤ 1000 ∧ (∀ s, s ∈ Nd.names t → s.size ≤ 10000) ∧ (Nd.kids t).length ≤ 1000 ∧ ∀ k, k ∈ Nd.kids t → depT m k (d - 1)

theorem depT.leaf (m : Nat) (x y : Int) (s : ByteArray) (d : Nat) : depT (m + 1) (⟨x, y, s, [], []⟩ : Nd (T m)) (d + 1) := ⟨by omega, by simp, fun s h => (by cases h), by simp, fun k h => (by cases h)⟩
theorem depT.one {m : Nat} {x y : Int} {s : ByteArray} {d : Nat} {k : T m} (h : depT m k d) : depT (m + 1) (⟨x, y, s, [], [k]⟩ : Nd (T m)) (d + 1) := ⟨by omega, by simp, fun s h => (by cases h), by simp, fun y hy => (by have e : y = k := (by simpa using hy); rw [e]; simpa using h)⟩

/-- How often l5Tree picks at most. -/
def pt : Nat → Nat
  | 0 => 0
  | d + 1 => 4 + 40 * pt d

/-- What drawing a tree makes. -/
def DTPost (m d : Nat) (w : World) (R : Nat) (ao : Option Addr) (L cap p q : Nat) (e : Ending) (w' : World) : Prop :=
  Near R w w' ∧ ∃ (p' : Nat) (t : T m) (c0 c1 c2 c3 c4 : Value), p' ≤ p + q ∧ Dr w' R ao L cap p' ∧ e = .returned (.agg #[c0, c1, c2, c3, c4]) ∧ TreeIn (fun b => w.heap.size ≤ b ∧ b < w'.heap.size) w' m t c0 c1 c2 c3 c4 ∧ depT m t d

theorem dt_exit {m d R L cap p p' q N : Nat} {ao : Option Addr} {w W : World} {t : T m} {g0 g1 g2 g3 g4 : Value} (h : Dr w R ao L cap p) (hN : w.heap.size ≤ N) (hn : Near R w W) (hb : W.heap[R]? = some (.cells #[.slice ao L cap, .int .i64 (p' : Int)] 105 (0, 0))) (hp : p' ≤ p + q) (hk : TreeIn (fun b => N + 1 ≤ b ∧ b < W.heap.size) W m t g0 g1 g2 g3 g4) (hd : depT m t d) :
    DTPost m d w R ao L cap p q (.returned (.agg #[g0, g1, g2, g3, g4])) (put5 W N 0 g0 g1 g2 g3 g4) := by
  have hR := h.lt
  have qq : ∀ b, b ≠ N → (put5 W N 0 g0 g1 g2 g3 g4).heap[b]? = W.heap[b]? := fun b h => put5_other h
  have hz : (put5 W N 0 g0 g1 g2 g3 g4).heap.size = W.heap.size := put5_size
  have hbl : Below 0 W (put5 W N 0 g0 g1 g2 g3 g4) := put5_below (Below.refl 0 W) (Nat.zero_le _)
  have hn' : Near R w (put5 W N 0 g0 g1 g2 g3 g4) := ⟨by rw [hbl.os]; exact hn.os, by rw [hbl.tape]; exact hn.tape, by rw [hbl.output]; exact hn.output, by rw [hz]; exact hn.size, fun b hb hne => (qq b (by omega)).trans (hn.block b hb hne)⟩
  exact ⟨hn', p', t, _, _, _, _, _, hp, h.keep hn' ((qq R (by omega)).trans hb), rfl, hk.keep (fun b hb => qq b (by omega)) (fun b hb => ⟨by omega, by rw [hz]; exact hb.2⟩), hd⟩

theorem leafDT_in (S : Nat → Prop) (w : World) (m : Nat) (x y : Int) (s : ByteArray) (hx : (Lit.int .i64 x).wf = true) (hy : (Lit.int .i64 y).wf = true) (hs : s.size ≤ 10000) : TreeIn S w (m + 1) (⟨x, y, s, [], []⟩ : Nd (T m)) (.int .i64 x) (.int .i64 y) (.string s) (.slice none 0 0) (.slice none 0 0) :=
  ⟨rfl, rfl, rfl, by unfold maxLen; show s.size ≤ _; omega, hx, hy, ⟨none, 0, rfl, by simp [maxLen], fun s h => (by cases h), fun h => absurd rfl h⟩, ⟨none, 0, rfl, by simp [maxLen], fun h => absurd rfl h⟩⟩

theorem oneDT_in {S : Nat → Prop} {w : World} {m : Nat} {x y : Int} {s : ByteArray} {t : T m} {b c : Nat} {c0 c1 c2 c3 c4 : Value} (hx : (Lit.int .i64 x).wf = true) (hy : (Lit.int .i64 y).wf = true) (hs : s.size ≤ 10000) (hb : S b) (hB : Box5 w b c0 c1 c2 c3 c4) (ht : TreeIn S w m t c0 c1 c2 c3 c4) :
    TreeIn S w (m + 1) (⟨x, y, s, [], [t]⟩ : Nd (T m)) (.int .i64 x) (.int .i64 y) (.string s) (.slice none 0 0) (.slice (some ⟨b, 0, none⟩) 1 c) := by
  refine ⟨rfl, rfl, rfl, by unfold maxLen; show s.size ≤ _; omega, hx, hy, ⟨none, 0, rfl, by simp [maxLen], fun s h => (by cases h), fun h => absurd rfl h⟩, ⟨some ⟨b, 0, none⟩, c, rfl, by simp [maxLen], fun _ => ⟨b, 0, rfl, hb, fun i hi => ?_⟩⟩⟩
  have : i = 0 := by simpa using hi
  subst this
  exact ⟨c0, c1, c2, c3, c4, by simpa using hB.c0, by simpa using hB.c1, by simpa using hB.c2, by simpa using hB.c3, by simpa using hB.c4, ht⟩

/-- What is gathered, as a tree. -/
theorem many_in {R X n : Nat} {w wr : World} {so : Int} {ns : List ByteArray} {ks : List (T n)} {nv kv : Value} (h : Many R X n w wr so ns ks nv kv) (hso : (Lit.int .i64 so).wf = true) (hns : ns.length ≤ 20000) (hks : ks.length ≤ 20000) :
    TreeIn (fun b => X ≤ b ∧ b < wr.heap.size) wr (n + 1) (⟨so, 0, ByteArray.empty, ns, ks⟩ : Nd (T n)) (.int .i64 so) (.int .i64 0) (.string ByteArray.empty) nv kv := by
  obtain ⟨xs, hxs, hk⟩ := h.kids
  refine ⟨rfl, rfl, rfl, by simp [maxLen], hso, (by rfl : (Lit.int .i64 0).wf = true), ?_, ?_⟩
  · refine strs_of_owns h.names hns h.short fun g hg => ?_
    have := owns_lt h.names g hg
    exact ⟨by omega, by omega⟩
  · refine row_of_owns hxs hks (fun g hg => ?_) fun j hj => ?_
    · have := owns_lt hxs g hg
      exact ⟨by omega, by omega⟩
    · obtain ⟨c0, c1, c2, c3, c4, hc, ht⟩ := hk j hj
      refine ⟨c0, c1, c2, c3, c4, hc, ht.keep (fun b hb => rfl) (fun b hb => ?_)⟩
      have := hb.1
      have := hb.2.1
      exact ⟨by omega, by omega⟩

theorem sumL_ge {α : Type} (f : α → Nat) (l : List α) (h : ∀ x, x ∈ l → 1 ≤ f x) : l.length ≤ sumL f l := by
  induction l with
  | nil => exact Nat.zero_le _
  | cons a l ih =>
    have h1 := h a (List.mem_cons_self ..)
    have h2 := ih fun x hx => h x (List.mem_cons_of_mem _ hx)
    simp only [sumL, List.length_cons]; omega

theorem sumL_mem {α : Type} (f : α → Nat) (l : List α) (x : α) (h : x ∈ l) : f x ≤ sumL f l := by
  induction l with
  | nil => cases h
  | cons a l ih =>
    rcases List.mem_cons.1 h with rfl | h
    · simp only [sumL]; omega
    · have := ih h
      simp only [sumL]; omega

/-- The kids of a schema that is ok are few. -/
theorem kids_few {m : Nat} {t : K (m + 1)} {d : Int} (hg : goodK (m + 1) t d = true) (hc : cntK (m + 1) t ≤ 40) : (Kd.kids t).length ≤ 39 ∧ ∀ k, k ∈ Kd.kids t → goodK m k (d + 1) = true ∧ cntK m k ≤ 40 := by
  simp only [goodK, Bool.and_eq_true] at hg
  have hk := List.all_eq_true.1 hg.2
  simp only [cntK] at hc
  have h1 := sumL_ge (fun k => cntK m k) (Kd.kids t) fun k hm => cntK_pos m k _ (hk k hm)
  refine ⟨by omega, fun k hm => ⟨hk k hm, ?_⟩⟩
  have := sumL_mem (fun k => cntK m k) (Kd.kids t) k hm
  omega

end Go.Proofs.YtpalkdcgbbbmeaaGreatDoor
