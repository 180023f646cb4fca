/-
 What the specification draws: DrawKindWiden, two schemas and a tree.
-/
import Derived.Test.YtpalkdcgbbbmeaaGreatDoorDPair
import Derived.Test.YtpalkdcgbbbmeaaGreatDoorDP2
import Derived.Test.YtpalkdcgbbbmeaaGreatDoorB12
import Derived.Test.YtpalkdcgbbbmeaaGreatDoorB2
import Derived.Deep.RegionLaw
import Derived.Test.YtpalkdcgbbbmeaaGreatDoorB11
import Derived.Test.YtpalkdcgbbbmeaaGreatDoorB7
import Derived.Test.YtpalkdcgbbbmeaaGreatDoorB1
import Derived.Test.YtpalkdcgbbbmeaaGreatDoorDF1
import Derived.Deep.RegionHeld
import Derived.Deep.RegionHeldLaw
import Derived.Lib.Hide
namespace Go.Proofs.YtpalkdcgbbbmeaaGreatDoor
open Go.RowKit

def DrawnKKT (m : Nat) (w : World) (e : Ending) (w' : World) : Prop :=
 Below w.heap.size w w' ∧ ∃ (a b : K m) (t : T m) (a0 a1 a2 b0 b1 b2 d0 d1 d2 d3 d4 : Value), e = .returned (.tuple #[.agg #[a0, a1, a2], .agg #[b0, b1, b2], .agg #[d0, d1, d2, d3, d4]]) ∧ KindIn (fun b => w.heap.size ≤ b ∧ b < w'.heap.size) w' m a a0 a1 a2 ∧ KindIn (fun b => w.heap.size ≤ b ∧ b < w'.heap.size) w' m b b0 b1 b2 ∧ TreeIn (fun b => w.heap.size ≤ b ∧ b < w'.heap.size) w' m t d0 d1 d2 d3 d4

theorem kkt_exit {m : Nat} {w W1 W : World} {a b : K m} {t : T m} {a0 a1 a2 b0 b1 b2 d0 d1 d2 d3 d4 : Value} (h1 : Below w.heap.size w W1) (hz : W1.heap.size = w.heap.size + 3) (hb : Below W1.heap.size W1 W)
  (hk : KindIn (fun b => W1.heap.size ≤ b ∧ b < W.heap.size) W m a a0 a1 a2) (hk' : KindIn (fun b => W1.heap.size ≤ b ∧ b < W.heap.size) W m b b0 b1 b2) (ht : TreeIn (fun b => W1.heap.size ≤ b ∧ b < W.heap.size) W m t d0 d1 d2 d3 d4) :
  DrawnKKT m w (.returned (.tuple #[.agg #[a0, a1, a2], .agg #[b0, b1, b2], .agg #[d0, d1, d2, d3, d4]])) (put5 (put3 (put3 W w.heap.size 0 a0 a1 a2) (w.heap.size + 1) 0 b0 b1 b2) (w.heap.size + 1 + 1) 0 d0 d1 d2 d3 d4) := by
 have hb2 : Below w.heap.size w W := below_step h1 h1.size hb
 have hs : (put5 (put3 (put3 W w.heap.size 0 a0 a1 a2) (w.heap.size + 1) 0 b0 b1 b2) (w.heap.size + 1 + 1) 0 d0 d1 d2 d3 d4).heap.size = W.heap.size := by rw [put5_size, put3_size, put3_size]
 have hq : ∀ b, W1.heap.size ≤ b → (put5 (put3 (put3 W w.heap.size 0 a0 a1 a2) (w.heap.size + 1) 0 b0 b1 b2) (w.heap.size + 1 + 1) 0 d0 d1 d2 d3 d4).heap[b]? = W.heap[b]? := fun b h => (put5_other (by omega)).trans ((put3_other (by omega)).trans (put3_other (by omega)))
 refine ⟨put5_below (put3_below (put3_below hb2 (Nat.le_refl _)) (by omega)) (by omega), a, b, t, _, _, _, _, _, _, _, _, _, _, _, rfl, hk.keep (fun b hb => hq b hb.1) (fun b hb => ⟨by omega, by rw [hs]; exact hb.2⟩), hk'.keep (fun b hb => hq b hb.1) (fun b hb => ⟨by omega, by rw [hs]; exact hb.2⟩), ht.keep (fun b hb => hq b hb.1) (fun b hb => ⟨by omega, by rw [hs]; exact hb.2⟩)⟩

theorem DrawnKKT.drew {m : Nat} {w w' : World} {e : Ending} (h : DrawnKKT m w e w') : DrawnKKT m w e w'.drew := by
 obtain ⟨hb, a, b, t, a0, a1, a2, b0, b1, b2, d0, d1, d2, d3, d4, he, hk, hk', ht⟩ := h
 exact ⟨hb.drew, a, b, t, a0, a1, a2, b0, b1, b2, d0, d1, d2, d3, d4, he, KindIn.keep (w := w') (w' := w'.drew) (fun _ _ => rfl) (fun _ h => h) hk, KindIn.keep (w := w') (w' := w'.drew) (fun _ _ => rfl) (fun _ h => h) hk', TreeIn.keep (w := w') (w' := w'.drew) (fun _ _ => rfl) (fun _ h => h) ht⟩

def litK (m : Nat) : K (m + 4) := (⟨5, [⟨#[97]⟩, ⟨#[98]⟩], [(⟨4, [], [(⟨4, [], [(⟨1, [], []⟩ : Kd (K m))]⟩ : Kd (K (m + 1)))]⟩ : Kd (K (m + 2))), (⟨4, [], [(⟨1, [], []⟩ : Kd (K (m + 1)))]⟩ : Kd (K (m + 2)))]⟩ : Kd (K (m + 3)))

theorem litK_in {S : Nat → Prop} {w : World} {B1 B3 B4 B5 : Nat} (m : Nat) (s1 : S B1) (s3 : S B3) (s4 : S B4) (s5 : S B5) (h1 : w.heap[B1]? = some (.cells #[.int .i64 1, .slice none 0 0, .slice none 0 0] 26 (0, 0))) (h3 : w.heap[B3]? = some (.cells #[.string ⟨#[97]⟩, .string ⟨#[98]⟩] 9 (0, 0)))
  (h4 : w.heap[B4]? = some (.cells #[.int .i64 4, .slice none 0 0, .slice (some ⟨B1, 0, none⟩) 1 1] 26 (0, 0))) (h5 : w.heap[B5]? = some (.cells #[.int .i64 4, .slice none 0 0, .slice (some ⟨B4, 0, none⟩) 1 1, .int .i64 4, .slice none 0 0, .slice (some ⟨B1, 0, none⟩) 1 1] 26 (0, 0))) :
  KindIn S w (m + 4) (litK m) (.int .i64 5) (.slice (some ⟨B3, 0, none⟩) 2 2) (.slice (some ⟨B5, 0, none⟩) 2 2) := by
 have k1 : ∀ q, KindIn S w (q + 1 + 1) (⟨4, [], [(⟨1, [], []⟩ : Kd (K q))]⟩ : Kd (K (q + 1))) (.int .i64 4) (.slice none 0 0) (.slice (some ⟨B1, 0, none⟩) 1 1) := fun q =>
  oneD_in rfl s1 (by simp [World.cell?, h1]) (by simp [World.cell?, h1]) (by simp [World.cell?, h1]) (leafD_in S w q 1 rfl)
 have k2 : KindIn S w (m + 3) (⟨4, [], [(⟨4, [], [(⟨1, [], []⟩ : Kd (K m))]⟩ : Kd (K (m + 1)))]⟩ : Kd (K (m + 2))) (.int .i64 4) (.slice none 0 0) (.slice (some ⟨B4, 0, none⟩) 1 1) :=
  oneD_in rfl s4 (by simp [World.cell?, h4]) (by simp [World.cell?, h4]) (by simp [World.cell?, h4]) (k1 m)
 refine ⟨rfl, (by rfl : (Lit.int .i64 5).wf = true), ⟨some ⟨B3, 0, none⟩, 2, rfl, (by show 2 ≤ maxLen; simp [maxLen]), fun s hs => ?_, fun _ => ⟨B3, 0, rfl, s3, fun i hi => ?_⟩⟩, ⟨some ⟨B5, 0, none⟩, 2, rfl, (by show 2 ≤ maxLen; simp [maxLen]), fun _ => ⟨B5, 0, rfl, s5, fun i hi => ?_⟩⟩⟩
 ·
  have : s = ⟨#[97]⟩ ∨ s = ⟨#[98]⟩ := by simpa [litK, Kd.names] using hs
  rcases this with rfl | rfl <;> (show 1 ≤ maxLen; simp [maxLen])
 ·
  have hi2 : i < 2 := hi
  obtain rfl | rfl : i = 0 ∨ i = 1 := by omega
  · simp [World.cell?, h3, litK]
  · simp [World.cell?, h3, litK]
 ·
  have hi2 : i < 2 := hi
  obtain rfl | rfl : i = 0 ∨ i = 1 := by omega
  · exact ⟨_, _, _, by simp [World.cell?, h5], by simp [World.cell?, h5], by simp [World.cell?, h5], k2⟩
  · exact ⟨_, _, _, by simp [World.cell?, h5], by simp [World.cell?, h5], by simp [World.cell?, h5], k1 (m + 1)⟩

def OneK (M R : Nat) (c0 c1 c2 : Value) (W : World) (X : Nat) : Prop := W.heap[X]? = some (.cells #[c0, c1, c2] 26 (0, 0)) ∧ M ≤ X ∧ X ≠ R

theorem OneK.lt {M R : Nat} {c0 c1 c2 : Value} {W : World} {X : Nat} (h : OneK M R c0 c1 c2 W X) : X < W.heap.size := (Array.getElem?_eq_some_iff.1 h.1).1

theorem OneK.keep {M R : Nat} {c0 c1 c2 : Value} {W w' : World} {X : Nat} (h : OneK M R c0 c1 c2 W X) (hn : Near R W w') : OneK M R c0 c1 c2 w' X := ⟨(hn.block X h.lt h.2.2).trans h.1, h.2⟩

theorem oneK_at {M R : Nat} {c0 c1 c2 : Value} (V : World) (h : M ≤ V.heap.size) (hR : R < M) : OneK M R c0 c1 c2 (V.alloc (.cells #[c0, c1, c2] 26)) V.heap.size := ⟨heap_alloc_new _ _, h, by omega⟩

theorem oneK_atD {M R : Nat} {c0 c1 c2 : Value} (V : World) (h : M ≤ V.heap.size) (hR : R < M) : OneK M R c0 c1 c2 (V.alloc (.cells #[c0, c1, c2] 26)).drew V.heap.size := ⟨heap_alloc_new V _, h, by omega⟩

theorem setCell_alloc (W : World) (p : Addr) (v : Value) (o : Obj) (h : p.block < W.heap.size) : (W.setCell p v).alloc o = (W.alloc o).setCell p v := by
 unfold World.setCell World.alloc
 congr 1
 apply Array.ext_getElem?
 intro i
 simp only [Array.getElem?_push, Array.getElem?_modify, Array.size_modify]
 by_cases h1 : i = W.heap.size
 ·
  subst h1
  simp; omega
 ·
  by_cases h2 : p.block = i
  ·
   subst h2
   simp [h1]
  · simp [h1, h2]

theorem put3_alloc {W : World} {N : Nat} {a b c : Value} {o : Obj} (h : N < W.heap.size) : (put3 W N 0 a b c).alloc o = put3 (W.alloc o) N 0 a b c := by
 unfold put3
 rw [setCell_alloc _ _ _ _ (by simpa using h), setCell_alloc _ _ _ _ (by simpa using h), setCell_alloc _ _ _ _ (by simpa using h)]

theorem cells3_set3 {W : World} {N M : Nat} {c0 c1 c2 a b c : Value} (hne : M ≠ N) (h : W.cell? ⟨M, 0, none⟩ = some c0 ∧ W.cell? ⟨M, 1, none⟩ = some c1 ∧ W.cell? ⟨M, 2, none⟩ = some c2) :
  (((W.setCell ⟨N, 0, none⟩ a).setCell ⟨N, 1, none⟩ b).setCell ⟨N, 2, none⟩ c).cell? ⟨M, 0, none⟩ = some c0 ∧ (((W.setCell ⟨N, 0, none⟩ a).setCell ⟨N, 1, none⟩ b).setCell ⟨N, 2, none⟩ c).cell? ⟨M, 1, none⟩ = some c1 ∧ (((W.setCell ⟨N, 0, none⟩ a).setCell ⟨N, 1, none⟩ b).setCell ⟨N, 2, none⟩ c).cell? ⟨M, 2, none⟩ = some c2 := by
 have e : (((W.setCell ⟨N, 0, none⟩ a).setCell ⟨N, 1, none⟩ b).setCell ⟨N, 2, none⟩ c).heap[M]? = W.heap[M]? := put3_other (w := W) (b := N) hne
 exact ⟨(World.cell?_of_block (a := ⟨M, 0, none⟩) e).trans h.1, (World.cell?_of_block (a := ⟨M, 1, none⟩) e).trans h.2.1, (World.cell?_of_block (a := ⟨M, 2, none⟩) e).trans h.2.2⟩

theorem cells3_set5 {W : World} {N M : Nat} {c0 c1 c2 a b c d e : Value} (hne : M ≠ N) (h : W.cell? ⟨M, 0, none⟩ = some c0 ∧ W.cell? ⟨M, 1, none⟩ = some c1 ∧ W.cell? ⟨M, 2, none⟩ = some c2) :
  (((((W.setCell ⟨N, 0, none⟩ a).setCell ⟨N, 1, none⟩ b).setCell ⟨N, 2, none⟩ c).setCell ⟨N, 3, none⟩ d).setCell ⟨N, 4, none⟩ e).cell? ⟨M, 0, none⟩ = some c0 ∧ (((((W.setCell ⟨N, 0, none⟩ a).setCell ⟨N, 1, none⟩ b).setCell ⟨N, 2, none⟩ c).setCell ⟨N, 3, none⟩ d).setCell ⟨N, 4, none⟩ e).cell? ⟨M, 1, none⟩ = some c1 ∧ (((((W.setCell ⟨N, 0, none⟩ a).setCell ⟨N, 1, none⟩ b).setCell ⟨N, 2, none⟩ c).setCell ⟨N, 3, none⟩ d).setCell ⟨N, 4, none⟩ e).cell? ⟨M, 2, none⟩ = some c2 := by
 have e : (((((W.setCell ⟨N, 0, none⟩ a).setCell ⟨N, 1, none⟩ b).setCell ⟨N, 2, none⟩ c).setCell ⟨N, 3, none⟩ d).setCell ⟨N, 4, none⟩ e).heap[M]? = W.heap[M]? := put5_other (w := W) (b := N) hne
 exact ⟨(World.cell?_of_block (a := ⟨M, 0, none⟩) e).trans h.1, (World.cell?_of_block (a := ⟨M, 1, none⟩) e).trans h.2.1, (World.cell?_of_block (a := ⟨M, 2, none⟩) e).trans h.2.2⟩

theorem cells3_alloc {W : World} {M : Nat} {c0 c1 c2 : Value} {o : Obj} (h : W.cell? ⟨M, 0, none⟩ = some c0 ∧ W.cell? ⟨M, 1, none⟩ = some c1 ∧ W.cell? ⟨M, 2, none⟩ = some c2) (hlt : M < W.heap.size) :
  (W.alloc o).cell? ⟨M, 0, none⟩ = some c0 ∧ (W.alloc o).cell? ⟨M, 1, none⟩ = some c1 ∧ (W.alloc o).cell? ⟨M, 2, none⟩ = some c2 := by
 have e := Below.heap_alloc W o M hlt
 exact ⟨(World.cell?_of_block (a := ⟨M, 0, none⟩) e).trans h.1, (World.cell?_of_block (a := ⟨M, 1, none⟩) e).trans h.2.1, (World.cell?_of_block (a := ⟨M, 2, none⟩) e).trans h.2.2⟩

theorem set3_size (W : World) (N : Nat) (a b c : Value) : (((W.setCell ⟨N, 0, none⟩ a).setCell ⟨N, 1, none⟩ b).setCell ⟨N, 2, none⟩ c).heap.size = W.heap.size := by simp

theorem set3_other {W : World} {N M : Nat} {a b c : Value} (hne : M ≠ N) : (((W.setCell ⟨N, 0, none⟩ a).setCell ⟨N, 1, none⟩ b).setCell ⟨N, 2, none⟩ c).heap[M]? = W.heap[M]? := put3_other (w := W) (b := N) hne

theorem set5_other {W : World} {N M : Nat} {a b c d e : Value} (hne : M ≠ N) : (((((W.setCell ⟨N, 0, none⟩ a).setCell ⟨N, 1, none⟩ b).setCell ⟨N, 2, none⟩ c).setCell ⟨N, 3, none⟩ d).setCell ⟨N, 4, none⟩ e).heap[M]? = W.heap[M]? := put5_other (w := W) (b := N) hne

theorem box3_at {W W' : World} {N : Nat} {a b c : Value} (h : Box3 W N a b c) (e : W'.heap[N]? = W.heap[N]?) : Box3 W' N a b c :=
 ⟨(World.cell?_of_block (a := ⟨N, 0, none⟩) e).trans h.c0, (World.cell?_of_block (a := ⟨N, 1, none⟩) e).trans h.c1, (World.cell?_of_block (a := ⟨N, 2, none⟩) e).trans h.c2⟩

theorem set3_boxz {W : World} {N : Nat} {a b c : Value} (h : W.heap[N]? = some (.cells #[.int .i64 0, .slice none 0 0, .slice none 0 0] 26 (0, 0))) : Box3 (((W.setCell ⟨N, 0, none⟩ a).setCell ⟨N, 1, none⟩ b).setCell ⟨N, 2, none⟩ c) N a b c := by
 obtain ⟨⟨h0, h1, h2⟩, -⟩ := zeroD_cells h
 refine ⟨?_, ?_, ?_⟩
 · rw [World.cell?_setCell_other _ _ _ _ (by simp), World.cell?_setCell_other _ _ _ _ (by simp), World.cell?_setCell_same _ _ _ h0]
 · rw [World.cell?_setCell_other _ _ _ _ (by simp), World.cell?_setCell_same _ _ _ ((World.cell?_setCell_other _ _ _ _ (by simp)).trans h1)]
 · rw [World.cell?_setCell_same _ _ _ ((World.cell?_setCell_other _ _ _ _ (by simp)).trans ((World.cell?_setCell_other _ _ _ _ (by simp)).trans h2))]

theorem set5_boxz {W : World} {N : Nat} {g0 g1 g2 g3 g4 : Value} (q : W.heap[N]? = some (.cells #[.int .i64 0, .int .i64 0, .string ⟨#[]⟩, .slice none 0 0, .slice none 0 0] 29 (0, 0))) : Box5 (((((W.setCell ⟨N, 0, none⟩ g0).setCell ⟨N, 1, none⟩ g1).setCell ⟨N, 2, none⟩ g2).setCell ⟨N, 3, none⟩ g3).setCell ⟨N, 4, none⟩ g4) N g0 g1 g2 g3 g4 := by
 obtain ⟨⟨h0, h1, h2, h3, h4⟩, -⟩ := five_cells q
 refine ⟨?_, ?_, ?_, ?_, ?_⟩
 · rw [World.cell?_setCell_other _ _ _ _ (by simp), World.cell?_setCell_other _ _ _ _ (by simp), World.cell?_setCell_other _ _ _ _ (by simp), World.cell?_setCell_other _ _ _ _ (by simp), World.cell?_setCell_same _ _ _ h0]
 · rw [World.cell?_setCell_other _ _ _ _ (by simp), World.cell?_setCell_other _ _ _ _ (by simp), World.cell?_setCell_other _ _ _ _ (by simp), World.cell?_setCell_same _ _ _ ((World.cell?_setCell_other _ _ _ _ (by simp)).trans h1)]
 · rw [World.cell?_setCell_other _ _ _ _ (by simp), World.cell?_setCell_other _ _ _ _ (by simp), World.cell?_setCell_same _ _ _ ((World.cell?_setCell_other _ _ _ _ (by simp)).trans ((World.cell?_setCell_other _ _ _ _ (by simp)).trans h2))]
 · rw [World.cell?_setCell_other _ _ _ _ (by simp), World.cell?_setCell_same _ _ _ ((World.cell?_setCell_other _ _ _ _ (by simp)).trans ((World.cell?_setCell_other _ _ _ _ (by simp)).trans ((World.cell?_setCell_other _ _ _ _ (by simp)).trans h3)))]
 · rw [World.cell?_setCell_same _ _ _ ((World.cell?_setCell_other _ _ _ _ (by simp)).trans ((World.cell?_setCell_other _ _ _ _ (by simp)).trans ((World.cell?_setCell_other _ _ _ _ (by simp)).trans ((World.cell?_setCell_other _ _ _ _ (by simp)).trans h4))))]

theorem tree_ex_alloc {m K : Nat} {W : World} {d0 d1 d2 d3 d4 : Value} {o : Obj} (h : ∃ t : T m, TreeIn (fun b => K ≤ b ∧ b < W.heap.size) W m t d0 d1 d2 d3 d4) : ∃ t : T m, TreeIn (fun b => K ≤ b ∧ b < (W.alloc o).heap.size) (W.alloc o) m t d0 d1 d2 d3 d4 := by
 obtain ⟨t, ht⟩ := h
 exact ⟨t, ht.keep (fun b hb => Below.heap_alloc _ _ _ hb.2) (fun b hb => ⟨hb.1, by have := hb.2; simp; omega⟩)⟩

theorem nearA {R : Nat} {W V : World} {o : Obj} (h : Near R W V) : Near R W (V.alloc o) := h.trans (Near.of_below ((Below.refl _ _).alloc (Nat.le_refl _) o))

theorem nearAD {R : Nat} {W V : World} {o : Obj} (h : Near R W V.drew) : Near R W (V.alloc o).drew := by
 have h' : Near R W V := ⟨h.os, h.tape, h.output, h.size, h.block⟩
 exact (nearA h').drew

theorem belowAD {W V : World} {o : Obj} (h : Below W.heap.size W V.drew) : Below W.heap.size W (V.alloc o).drew := by
 have h' : Below W.heap.size W V := ⟨h.os, h.tape, h.output, h.size, h.block⟩
 exact (h'.alloc h'.size o).drew

set_option maxRecDepth 20000 in
set_option maxHeartbeats 16000000 in
theorem drawKWiden_any (m : Nat) (hm : 18 ≤ m) (S : Nat → Prop) (w : World) (ao : Option Addr) (L cap : Nat) (h : CodeIn S w ao L cap) (hS : ∀ b, S b → b < w.heap.size) :
  Calls Tryz.prog 5 #[.slice ao L cap] w (DrawnKKT m w) := by
 obtain ⟨W1, hW1⟩ : ∃ W1, W1 = ((w.alloc (.cells #[.int .i64 0, .slice none 0 0, .slice none 0 0] 26)).alloc (.cells #[.int .i64 0, .slice none 0 0, .slice none 0 0] 26)).alloc (.cells #[.int .i64 0, .int .i64 0, .string ⟨#[]⟩, .slice none 0 0, .slice none 0 0] 29) := ⟨_, rfl⟩
 have hz1 : W1.heap.size = w.heap.size + 3 := by rw [hW1]; simp
 have hb1 : Below w.heap.size w W1 := by rw [hW1]; exact (((Below.refl _ _).alloc (Nat.le_refl _) _).alloc (by simp) _).alloc (by simp; omega) _
 have hq1 : W1.heap[w.heap.size]? = some (.cells #[.int .i64 0, .slice none 0 0, .slice none 0 0] 26 (0, 0)) := by
  rw [hW1, Below.heap_alloc _ _ _ (by simp; omega), Below.heap_alloc _ _ _ (by simp)]
  exact heap_alloc_new _ _
 have hq2 : W1.heap[w.heap.size + 1]? = some (.cells #[.int .i64 0, .slice none 0 0, .slice none 0 0] 26 (0, 0)) := by
  rw [hW1, Below.heap_alloc _ _ _ (by simp)]
  have := heap_alloc_new (w.alloc (.cells #[.int .i64 0, .slice none 0 0, .slice none 0 0] 26)) (.cells #[.int .i64 0, .slice none 0 0, .slice none 0 0] 26)
  rw [show (w.alloc (.cells #[.int .i64 0, .slice none 0 0, .slice none 0 0] 26)).heap.size = w.heap.size + 1 by simp] at this
  exact this
 have hq3 : W1.heap[w.heap.size + 1 + 1]? = some (.cells #[.int .i64 0, .int .i64 0, .string ⟨#[]⟩, .slice none 0 0, .slice none 0 0] 29 (0, 0)) := by
  rw [hW1]
  have := heap_alloc_new ((w.alloc (.cells #[.int .i64 0, .slice none 0 0, .slice none 0 0] 26)).alloc (.cells #[.int .i64 0, .slice none 0 0, .slice none 0 0] 26)) (.cells #[.int .i64 0, .int .i64 0, .string ⟨#[]⟩, .slice none 0 0, .slice none 0 0] 29)
  rw [show ((w.alloc (.cells #[.int .i64 0, .slice none 0 0, .slice none 0 0] 26)).alloc (.cells #[.int .i64 0, .slice none 0 0, .slice none 0 0] 26)).heap.size = w.heap.size + 1 + 1 by simp] at this
  exact this
 have HO : Hid (Calls Tryz.prog 22 #[.slice ao L cap] W1 _) := l6Open_any S W1 ao L cap ⟨h.1, h.2.1, fun h0 => by
   obtain ⟨b, off, ha, hb, hc⟩ := h.2.2 h0
   exact ⟨b, off, ha, hb, fun j hj => by
    obtain ⟨u, hu, hcell⟩ := hc j hj
    exact ⟨u, hu, (World.cell?_of_block (hb1.block b (hS b hb))).trans hcell⟩⟩⟩ (fun b hb => by have := hS b hb; omega)
 have HZ : Hid (∀ W, Below W1.heap.size W1 W → W.heap[w.heap.size]? = some (.cells #[.int .i64 0, .slice none 0 0, .slice none 0 0] 26 (0, 0)) ∧ W.heap[w.heap.size + 1]? = some (.cells #[.int .i64 0, .slice none 0 0, .slice none 0 0] 26 (0, 0)) ∧ W.heap[w.heap.size + 1 + 1]? = some (.cells #[.int .i64 0, .int .i64 0, .string ⟨#[]⟩, .slice none 0 0, .slice none 0 0] 29 (0, 0))) := fun W hW => ⟨(hW.block _ (by omega)).trans hq1, (hW.block _ (by omega)).trans hq2, (hW.block _ (by omega)).trans hq3⟩
 have HX : Hid (Below w.heap.size w W1 ∧ W1.heap.size = w.heap.size + 3) := ⟨hb1, hz1⟩
 have hz1' : w.heap.size + 3 ≤ W1.heap.size := by omega
 clear h hb1 hq1 hq2 hq3 hz1
 go_enter Tryz.func5, Tryz.ntmps5
 go_wp2_with fail
 rw [← hW1]
 clear hW1
 refine HO.out.mono ?_
 rintro e w1 ⟨hb1, R, rfl, hR, L', hD⟩
 have hRl := hD.lt
 have hs1 := hb1.size
 have HPr : Hid (Calls Tryz.prog 23 #[.pointer (some ⟨R, 0, none⟩)] w1 (PairPost m w1 R ao L' cap 0 120000)) := l5Pair_any m R ao L' cap 0 w1 (by omega) hD (by omega)
 have HB1 : Hid (Below W1.heap.size W1 w1) := hb1
 clear HO hb1 hD
 go_wp2_with fail
 refine HPr.out.mono ?_
 rintro e w3 ⟨hn3, p3, a, b, a0, a1, a2, b0, b1, b2, hp3, hD3, rfl, hka, hkb, hda, hdb, hoa, hob⟩
 obtain ⟨u0, uxa, uxl, uxc, uya, uyl, uyc, rfl, rfl, rfl⟩ := hka.shape
 obtain ⟨v0, vxa, vxl, vxc, vya, vyl, vyc, rfl, rfl, rfl⟩ := hkb.shape
 have hs3 := hn3.size
 obtain ⟨W3, hW3⟩ : ∃ W3, W3 = (w3.alloc (.cells #[.int .i64 u0, .slice uxa uxl uxc, .slice uya uyl uyc] 26)).alloc (.cells #[.int .i64 v0, .slice vxa vxl vxc, .slice vya vyl vyc] 26) := ⟨_, rfl⟩
 have ha3 : Below w3.heap.size w3 W3 := by rw [hW3]; exact ((Below.refl _ _).alloc (Nat.le_refl _) _).alloc (by simp) _
 have hzz3 : w3.heap.size + 2 ≤ W3.heap.size := by rw [hW3]; simp
 have hxa : Box3 W3 w3.heap.size (.int .i64 u0) (.slice uxa uxl uxc) (.slice uya uyl uyc) := by rw [hW3]; exact (Box3.new w3 _ _ _ 26).keep ((Below.refl _ _).alloc (Nat.le_refl _) _)
 have hxb : Box3 W3 (w3.heap.size + 1) (.int .i64 v0) (.slice vxa vxl vxc) (.slice vya vyl vyc) := by
  have hx := Box3.new (w3.alloc (.cells #[.int .i64 u0, .slice uxa uxl uxc, .slice uya uyl uyc] 26)) (.int .i64 v0) (.slice vxa vxl vxc) (.slice vya vyl vyc) 26
  rw [show (w3.alloc (.cells #[.int .i64 u0, .slice uxa uxl uxc, .slice uya uyl uyc] 26)).heap.size = w3.heap.size + 1 by simp] at hx
  rw [hW3]; exact hx
 have hka3 : KindIn (fun b => w1.heap.size ≤ b ∧ b < w3.heap.size) W3 m a (.int .i64 u0) (.slice uxa uxl uxc) (.slice uya uyl uyc) := hka.keep (fun b hb => ha3.block b hb.2) (fun _ h => h)
 have hkb3 : KindIn (fun b => w1.heap.size ≤ b ∧ b < w3.heap.size) W3 m b (.int .i64 v0) (.slice vxa vxl vxc) (.slice vya vyl vyc) := hkb.keep (fun b hb => ha3.block b hb.2) (fun _ h => h)
 have HB3 : Hid (Below W1.heap.size W1 W3) := near_new HB1.out hR (hn3.trans (Near.of_below ha3))
 have HT : Hid (Calls Tryz.prog 24 #[.pointer (some ⟨R, 0, none⟩), .agg #[.int .i64 u0, .slice uxa uxl uxc, .slice uya uyl uyc]] W3 (DTPost m 4 W3 R ao L' cap p3 (pt 4))) := l5Tree_any 4 m R ao L' cap p3 a _ 1 _ _ _ W3 hda (okK_get hoa).1 (okK_get hoa).2 hka3 (fun b hb => ⟨by omega, by omega⟩) (hD3.same ha3) (by rw [pt4]; omega)
 have H3 : Hid ((KindIn (fun b => w1.heap.size ≤ b ∧ b < w3.heap.size) W3 m a (.int .i64 u0) (.slice uxa uxl uxc) (.slice uya uyl uyc) ∧ Box3 W3 w3.heap.size (.int .i64 u0) (.slice uxa uxl uxc) (.slice uya uyl uyc)) ∧ (KindIn (fun b => w1.heap.size ≤ b ∧ b < w3.heap.size) W3 m b (.int .i64 v0) (.slice vxa vxl vxc) (.slice vya vyl vyc) ∧ Box3 W3 (w3.heap.size + 1) (.int .i64 v0) (.slice vxa vxl vxc) (.slice vya vyl vyc)) ∧ depK m b 11) := ⟨⟨hka3, hxa⟩, ⟨hkb3, hxb⟩, hdb⟩
 obtain ⟨i0, i1, i2⟩ := hxa
 rw [hW3] at i0 i1 i2
 clear HPr HB1 hn3 hD3 hka hkb hda hdb hoa hob ha3 hka3 hkb3 hxb
 go_wp2_with fail
 rw [← hW3]
 clear hW3
 refine HT.out.mono ?_
 rintro e w4 ⟨hn4, p4, t, e0, e1, e2, e3, e4, hp4, hD4, rfl, ht, hdt⟩
 rw [pt4] at hp4
 obtain ⟨t0, t1, t2, txa, txl, txc, tya, tyl, tyc, rfl, rfl, rfl, rfl, rfl⟩ := ht.shape
 have hs4 := hn4.size
 clear i0 i1 i2
 obtain ⟨W4, hW4⟩ : ∃ W4, W4 = w4.alloc (.cells #[.int .i64 t0, .int .i64 t1, .string t2, .slice txa txl txc, .slice tya tyl tyc] 29) := ⟨_, rfl⟩
 have ha4 : Below w4.heap.size w4 W4 := by rw [hW4]; exact (Below.refl _ _).alloc (Nat.le_refl _) _
 have hx4 : Box5 W4 w4.heap.size (.int .i64 t0) (.int .i64 t1) (.string t2) (.slice txa txl txc) (.slice tya tyl tyc) := by rw [hW4]; exact Box5.new _ _ _ _ _ _ _
 have hzz4 : w4.heap.size + 1 ≤ W4.heap.size := by rw [hW4]; simp
 have hn34 : Near R W3 W4 := hn4.trans (Near.of_below ha4)
 have HPk : Hid (Calls Tryz.prog 25 #[.pointer (some ⟨R, 0, none⟩), .int .i64 16] W4 (PickPost W4 R ao L' cap p4 16)) := pick_any W4 R ao L' cap p4 16 (hD4.same ha4) (by omega) (by omega) (by omega)
 have H4 : Hid (Near R W3 W4 ∧ TreeIn (fun b => W3.heap.size ≤ b ∧ b < w4.heap.size) W4 m t (.int .i64 t0) (.int .i64 t1) (.string t2) (.slice txa txl txc) (.slice tya tyl tyc) ∧ Box5 W4 w4.heap.size (.int .i64 t0) (.int .i64 t1) (.string t2) (.slice txa txl txc) (.slice tya tyl tyc) ∧ depT m t 4) := ⟨hn34, ht.keep (fun b hb => ha4.block b hb.2) (fun _ h => h), hx4, hdt⟩
 clear HT hn4 hD4 ht hdt ha4 hn34 hx4
 go_wp2_with fail
 rw [← hW4]
 clear hW4
 refine HPk.out.mono ?_
 rintro e w5 ⟨z, rfl, hz, hn5, hD5, -⟩
 have hs5 := hn5.size
 have hn35 : Near R W3 w5 := H4.out.1.trans hn5
 have HK : Hid (∀ W, Near R w5 W → (KindIn (fun b => w1.heap.size ≤ b ∧ b < w3.heap.size) W m a (.int .i64 u0) (.slice uxa uxl uxc) (.slice uya uyl uyc) ∧ KindIn (fun b => w1.heap.size ≤ b ∧ b < w3.heap.size) W m b (.int .i64 v0) (.slice vxa vxl vxc) (.slice vya vyl vyc) ∧ TreeIn (fun b => W3.heap.size ≤ b ∧ b < w4.heap.size) W m t (.int .i64 t0) (.int .i64 t1) (.string t2) (.slice txa txl txc) (.slice tya tyl tyc)) ∧ (Box3 W w3.heap.size (.int .i64 u0) (.slice uxa uxl uxc) (.slice uya uyl uyc) ∧ Box3 W (w3.heap.size + 1) (.int .i64 v0) (.slice vxa vxl vxc) (.slice vya vyl vyc) ∧ Box5 W w4.heap.size (.int .i64 t0) (.int .i64 t1) (.string t2) (.slice txa txl txc) (.slice tya tyl tyc)) ∧ Below W1.heap.size W1 W) := fun W hW => by
  have h3 := hn35.trans hW
  have h4 := hn5.trans hW
  exact ⟨⟨H3.out.1.1.keep (fun b hb => h3.block b (by omega) (by omega)) (fun _ h => h), H3.out.2.1.1.keep (fun b hb => h3.block b (by omega) (by omega)) (fun _ h => h), H4.out.2.1.keep (fun b hb => h4.block b (by omega) (by omega)) (fun _ h => h)⟩,
   ⟨⟨h3.cell H3.out.1.2.c0 (by omega), h3.cell H3.out.1.2.c1 (by omega), h3.cell H3.out.1.2.c2 (by omega)⟩, ⟨h3.cell H3.out.2.1.2.c0 (by omega), h3.cell H3.out.2.1.2.c1 (by omega), h3.cell H3.out.2.1.2.c2 (by omega)⟩, ⟨h4.cell H4.out.2.2.1.c0 (by omega), h4.cell H4.out.2.2.1.c1 (by omega), h4.cell H4.out.2.2.1.c2 (by omega), h4.cell H4.out.2.2.1.c3 (by omega), h4.cell H4.out.2.2.1.c4 (by omega)⟩⟩, near_new HB3.out hR h3⟩
 have HD : Hid (Dr w5.drew R ao L' cap (p4 + 1) ∧ depK m b 11 ∧ depT m t 4) := ⟨hD5.same ((Below.refl _ _).drew), H3.out.2.2, H4.out.2.2.2⟩
 have HDr : Hid (Near R w5 w5.drew) := (Near.refl _ _).drew
 have hsd : w5.drew.heap.size = w5.heap.size := rfl
 obtain ⟨⟨i0, i1, i2⟩, ⟨j0, j1, j2⟩, ⟨k0, k1, k2, k3, k4⟩⟩ := (HK.out w5 (Near.refl _ _)).2.1
 have n0 : ¬ w.heap.size = w3.heap.size := by omega
 have n1 : ¬ w.heap.size = w3.heap.size + 1 := by omega
 have n2 : ¬ w.heap.size = w4.heap.size := by omega
 have n3 : ¬ w.heap.size + 1 = w3.heap.size := by omega
 have n4 : ¬ w.heap.size + 1 = w3.heap.size + 1 := by omega
 have n5 : ¬ w.heap.size + 1 = w4.heap.size := by omega
 have n6 : ¬ w.heap.size + 1 + 1 = w3.heap.size := by omega
 have n7 : ¬ w.heap.size + 1 + 1 = w3.heap.size + 1 := by omega
 have n8 : ¬ w.heap.size + 1 + 1 = w4.heap.size := by omega
 clear HPk H3 H4 HB3 hn5 hD5 hn35
 by_cases z0 : z = 0
 ·
  subst z0
  have HS : Hid (Calls Tryz.prog 26 #[.pointer (some ⟨R, 0, none⟩), .agg #[.int .i64 t0, .int .i64 t1, .string t2, .slice txa txl txc, .slice tya tyl tyc]] w5.drew (SpoilPostT m (fun b => W3.heap.size ≤ b ∧ b < w4.heap.size) w5.drew R ao L' cap (p4 + 1) (10 * 4))) := spoilT_any 4 m R ao L' cap (p4 + 1) _ t _ _ _ _ _ w5.drew (by omega) HD.out.2.2 (HK.out _ HDr.out).1.2.2 (fun b hb => ⟨by omega, by omega⟩) HD.out.1 (by omega)
  clear HD
  go_upto_region 6 with fail
  go_region_held (fun w' => (w'.cell? ⟨w3.heap.size, 0, none⟩ = some (.int .i64 u0) ∧ w'.cell? ⟨w3.heap.size, 1, none⟩ = some (.slice uxa uxl uxc) ∧ w'.cell? ⟨w3.heap.size, 2, none⟩ = some (.slice uya uyl uyc)) ∧ (w'.cell? ⟨w3.heap.size + 1, 0, none⟩ = some (.int .i64 v0) ∧ w'.cell? ⟨w3.heap.size + 1, 1, none⟩ = some (.slice vxa vxl vxc) ∧ w'.cell? ⟨w3.heap.size + 1, 2, none⟩ = some (.slice vya vyl vyc)) ∧ w'.cell? ⟨w4.heap.size, 0, none⟩ = some (.int .i64 t0) ∧ w'.cell? ⟨w4.heap.size, 1, none⟩ = some (.int .i64 t1) ∧ w'.cell? ⟨w4.heap.size, 2, none⟩ = some (.string t2) ∧ w'.cell? ⟨w4.heap.size, 3, none⟩ = some (.slice txa txl txc) ∧ w'.cell? ⟨w4.heap.size, 4, none⟩ = some (.slice tya tyl tyc)) (first | with_reducible assumption | go_keep) (first | (go_at_call 26; refine HS.out.mono ?_; rintro e w6 ⟨hn6, p6, t6, d0, d1, d2, d3, d4, hp6, hD6, rfl, ht6⟩; obtain ⟨s0, s1, s2, sxa, sxl, sxc, sya, syl, syc, rfl, rfl, rfl, rfl, rfl⟩ := ht6.shape; have hn6' := HDr.out.trans hn6; obtain ⟨⟨ka6, kb6, kt6⟩, ⟨⟨l0, l1, l2⟩, ⟨l3, l4, l5⟩, ⟨l6, l7, l8, l9, l10⟩⟩, hb6⟩ := HK.out w6 hn6'; obtain ⟨q1, q2, q3⟩ := HZ.out w6 hb6; have hz6 := hn6.size; have HP : Hid (DrawnKKT m w (.returned (.tuple #[.agg #[.int .i64 u0, .slice uxa uxl uxc, .slice uya uyl uyc], .agg #[.int .i64 v0, .slice vxa vxl vxc, .slice vya vyl vyc], .agg #[.int .i64 s0, .int .i64 s1, .string s2, .slice sxa sxl sxc, .slice sya syl syc]])) (put5 (put3 (put3 w6 w.heap.size 0 (.int .i64 u0) (.slice uxa uxl uxc) (.slice uya uyl uyc)) (w.heap.size + 1) 0 (.int .i64 v0) (.slice vxa vxl vxc) (.slice vya vyl vyc)) (w.heap.size + 1 + 1) 0 (.int .i64 s0) (.int .i64 s1) (.string s2) (.slice sxa sxl sxc) (.slice sya syl syc))) := kkt_exit HX.out.1 HX.out.2 hb6 (ka6.keep (fun _ _ => rfl) (fun b hb => ⟨by omega, by omega⟩)) (kb6.keep (fun _ _ => rfl) (fun b hb => ⟨by omega, by omega⟩)) (ht6.keep (fun _ _ => rfl) (fun b hb => hb.elim (fun h => ⟨by omega, by omega⟩) (fun h => ⟨by omega, h.2⟩))); obtain ⟨⟨r0, r1, r2⟩, f0, f1, f2⟩ := zeroD_cells q1; obtain ⟨⟨o0, o1, o2⟩, g0, g1, g2⟩ := zeroD_cells q2; obtain ⟨⟨p0, p1, p2, p3, p4⟩, h0, h1, h2, h3, h4⟩ := five_cells q3; clear hn6 hn6' hD6 ht6 hb6 q1 q2 q3 ka6 kb6 kt6))
  all_goals
   go_wp2_with fail
   refine bodyPost_ret (v := .tuple #[.agg #[.int .i64 u0, .slice uxa uxl uxc, .slice uya uyl uyc], .agg #[.int .i64 v0, .slice vxa vxl vxc, .slice vya vyl vyc], .agg #[.int .i64 s0, .int .i64 s1, .string s2, .slice sxa sxl sxc, .slice sya syl syc]]) (by simp [results, Tryz.results5, go_sem, r0, r1, r2, o0, o1, o2, p0, p1, p2, p3, p4]) rfl ?_
   exact HP.out
 have z0i : ¬ (z : Int) = 0 := by omega
 by_cases z1 : z = 1
 ·
  subst z1
  obtain ⟨⟨ka6, kb6, kt6⟩, -, hb6⟩ := HK.out w5 (Near.refl _ _)
  obtain ⟨q1, q2, q3⟩ := HZ.out w5 hb6
  have HP : Hid (DrawnKKT m w (.returned (.tuple #[.agg #[.int .i64 v0, .slice vxa vxl vxc, .slice vya vyl vyc], .agg #[.int .i64 u0, .slice uxa uxl uxc, .slice uya uyl uyc], .agg #[.int .i64 t0, .int .i64 t1, .string t2, .slice txa txl txc, .slice tya tyl tyc]])) (put5 (put3 (put3 w5 w.heap.size 0 (.int .i64 v0) (.slice vxa vxl vxc) (.slice vya vyl vyc)) (w.heap.size + 1) 0 (.int .i64 u0) (.slice uxa uxl uxc) (.slice uya uyl uyc)) (w.heap.size + 1 + 1) 0 (.int .i64 t0) (.int .i64 t1) (.string t2) (.slice txa txl txc) (.slice tya tyl tyc)).drew) := (kkt_exit HX.out.1 HX.out.2 hb6 (kb6.keep (fun _ _ => rfl) (fun b hb => ⟨by omega, by omega⟩)) (ka6.keep (fun _ _ => rfl) (fun b hb => ⟨by omega, by omega⟩)) (kt6.keep (fun _ _ => rfl) (fun b hb => ⟨by omega, by omega⟩))).drew
  obtain ⟨⟨r0, r1, r2⟩, f0, f1, f2⟩ := zeroD_cells q1
  obtain ⟨⟨o0, o1, o2⟩, g0, g1, g2⟩ := zeroD_cells q2
  obtain ⟨⟨p0, p1, p2, p3, p4⟩, h0, h1, h2, h3, h4⟩ := five_cells q3
  clear HD HK HZ HX HDr q1 q2 q3 hb6 ka6 kb6 kt6
  go_upto_region 8 with fail
  go_region_held (fun w' => (w'.cell? ⟨w3.heap.size, 0, none⟩ = some (.int .i64 u0) ∧ w'.cell? ⟨w3.heap.size, 1, none⟩ = some (.slice uxa uxl uxc) ∧ w'.cell? ⟨w3.heap.size, 2, none⟩ = some (.slice uya uyl uyc)) ∧ (w'.cell? ⟨w3.heap.size + 1, 0, none⟩ = some (.int .i64 v0) ∧ w'.cell? ⟨w3.heap.size + 1, 1, none⟩ = some (.slice vxa vxl vxc) ∧ w'.cell? ⟨w3.heap.size + 1, 2, none⟩ = some (.slice vya vyl vyc)) ∧ w'.cell? ⟨w4.heap.size, 0, none⟩ = some (.int .i64 t0) ∧ w'.cell? ⟨w4.heap.size, 1, none⟩ = some (.int .i64 t1) ∧ w'.cell? ⟨w4.heap.size, 2, none⟩ = some (.string t2) ∧ w'.cell? ⟨w4.heap.size, 3, none⟩ = some (.slice txa txl txc) ∧ w'.cell? ⟨w4.heap.size, 4, none⟩ = some (.slice tya tyl tyc)) (first | with_reducible assumption | go_keep) (fail)
  all_goals
   go_wp2_with fail
   refine bodyPost_ret (v := .tuple #[.agg #[.int .i64 v0, .slice vxa vxl vxc, .slice vya vyl vyc], .agg #[.int .i64 u0, .slice uxa uxl uxc, .slice uya uyl uyc], .agg #[.int .i64 t0, .int .i64 t1, .string t2, .slice txa txl txc, .slice tya tyl tyc]]) (by simp [results, Tryz.results5, go_sem, r0, r1, r2, o0, o1, o2, p0, p1, p2, p3, p4]) rfl ?_
   exact HP.out
 have z1i : ¬ (z : Int) = 1 := by omega
 by_cases z2 : z = 2
 ·
  subst z2
  have HS : Hid (Calls Tryz.prog 27 #[.pointer (some ⟨R, 0, none⟩), .agg #[.int .i64 v0, .slice vxa vxl vxc, .slice vya vyl vyc]] w5.drew (SpoilPost m (fun b => w1.heap.size ≤ b ∧ b < w3.heap.size) w5.drew R ao L' cap (p4 + 1) (50 * 11))) := spoil_any 11 m R ao L' cap (p4 + 1) _ b _ _ _ w5.drew (by omega) HD.out.2.1 (HK.out _ HDr.out).1.2.1 (fun b hb => ⟨by omega, by omega⟩) HD.out.1 (by omega)
  clear HD
  go_upto_region 10 with fail
  go_region_held (fun w' => (w'.cell? ⟨w3.heap.size, 0, none⟩ = some (.int .i64 u0) ∧ w'.cell? ⟨w3.heap.size, 1, none⟩ = some (.slice uxa uxl uxc) ∧ w'.cell? ⟨w3.heap.size, 2, none⟩ = some (.slice uya uyl uyc)) ∧ (w'.cell? ⟨w3.heap.size + 1, 0, none⟩ = some (.int .i64 v0) ∧ w'.cell? ⟨w3.heap.size + 1, 1, none⟩ = some (.slice vxa vxl vxc) ∧ w'.cell? ⟨w3.heap.size + 1, 2, none⟩ = some (.slice vya vyl vyc)) ∧ w'.cell? ⟨w4.heap.size, 0, none⟩ = some (.int .i64 t0) ∧ w'.cell? ⟨w4.heap.size, 1, none⟩ = some (.int .i64 t1) ∧ w'.cell? ⟨w4.heap.size, 2, none⟩ = some (.string t2) ∧ w'.cell? ⟨w4.heap.size, 3, none⟩ = some (.slice txa txl txc) ∧ w'.cell? ⟨w4.heap.size, 4, none⟩ = some (.slice tya tyl tyc)) (first | with_reducible assumption | go_keep) (first | (go_at_call 27; refine HS.out.mono ?_; rintro e w6 ⟨hn6, p6, k6, d0, d1, d2, hp6, hD6, rfl, hk6⟩; obtain ⟨s0, sxa, sxl, sxc, sya, syl, syc, rfl, rfl, rfl⟩ := hk6.shape; have hn6' := HDr.out.trans hn6; obtain ⟨⟨ka6, kb6, kt6⟩, ⟨⟨l0, l1, l2⟩, ⟨l3, l4, l5⟩, ⟨l6, l7, l8, l9, l10⟩⟩, hb6⟩ := HK.out w6 hn6'; obtain ⟨q1, q2, q3⟩ := HZ.out w6 hb6; have hz6 := hn6.size; have HP : Hid (DrawnKKT m w (.returned (.tuple #[.agg #[.int .i64 u0, .slice uxa uxl uxc, .slice uya uyl uyc], .agg #[.int .i64 s0, .slice sxa sxl sxc, .slice sya syl syc], .agg #[.int .i64 t0, .int .i64 t1, .string t2, .slice txa txl txc, .slice tya tyl tyc]])) (put5 (put3 (put3 w6 w.heap.size 0 (.int .i64 u0) (.slice uxa uxl uxc) (.slice uya uyl uyc)) (w.heap.size + 1) 0 (.int .i64 s0) (.slice sxa sxl sxc) (.slice sya syl syc)) (w.heap.size + 1 + 1) 0 (.int .i64 t0) (.int .i64 t1) (.string t2) (.slice txa txl txc) (.slice tya tyl tyc))) := kkt_exit HX.out.1 HX.out.2 hb6 (ka6.keep (fun _ _ => rfl) (fun b hb => ⟨by omega, by omega⟩)) (hk6.keep (fun _ _ => rfl) (fun b hb => hb.elim (fun h => ⟨by omega, by omega⟩) (fun h => ⟨by omega, h.2⟩))) (kt6.keep (fun _ _ => rfl) (fun b hb => ⟨by omega, by omega⟩)); obtain ⟨⟨r0, r1, r2⟩, f0, f1, f2⟩ := zeroD_cells q1; obtain ⟨⟨o0, o1, o2⟩, g0, g1, g2⟩ := zeroD_cells q2; obtain ⟨⟨p0, p1, p2, p3, p4⟩, h0, h1, h2, h3, h4⟩ := five_cells q3; clear hn6 hn6' hD6 hk6 hb6 q1 q2 q3 ka6 kb6 kt6))
  all_goals
   go_wp2_with fail
   refine bodyPost_ret (v := .tuple #[.agg #[.int .i64 u0, .slice uxa uxl uxc, .slice uya uyl uyc], .agg #[.int .i64 s0, .slice sxa sxl sxc, .slice sya syl syc], .agg #[.int .i64 t0, .int .i64 t1, .string t2, .slice txa txl txc, .slice tya tyl tyc]]) (by simp [results, Tryz.results5, go_sem, r0, r1, r2, o0, o1, o2, p0, p1, p2, p3, p4]) rfl ?_
   exact HP.out
 have z2i : ¬ (z : Int) = 2 := by omega
 by_cases z3 : z = 3
 ·
  subst z3
  obtain ⟨m4, rfl⟩ : ∃ m4, m = m4 + 5 := ⟨m - 5, by omega⟩
  obtain ⟨W6, hW6⟩ : ∃ W6, W6 = ((((((w5.alloc (.cells #[.int .i64 1, .slice none 0 0, .slice none 0 0] 26)).alloc (.cells #[.int .i64 1, .slice none 0 0, .slice none 0 0] 26)).alloc (.cells #[.int .i64 4, .slice none 0 0, .slice (some ⟨w5.heap.size + 1, 0, none⟩) 1 1] 26)).alloc (.cells #[.string ⟨#[97]⟩, .string ⟨#[98]⟩] 9)).alloc (.cells #[.int .i64 4, .slice none 0 0, .slice (some ⟨w5.heap.size + 1, 0, none⟩) 1 1] 26)).alloc (.cells #[.int .i64 4, .slice none 0 0, .slice (some ⟨w5.heap.size + 1 + 1 + 1 + 1, 0, none⟩) 1 1, .int .i64 4, .slice none 0 0, .slice (some ⟨w5.heap.size + 1, 0, none⟩) 1 1] 26)).alloc (.cells #[.int .i64 5, .slice (some ⟨w5.heap.size + 1 + 1 + 1, 0, none⟩) 2 2, .slice (some ⟨w5.heap.size + 1 + 1 + 1 + 1 + 1, 0, none⟩) 2 2] 26) := ⟨_, rfl⟩
  have hz6 : W6.heap.size = w5.heap.size + 7 := by rw [hW6]; simp
  have hb6 : Below w5.heap.size w5 W6 := by rw [hW6]; exact ((((((((Below.refl _ _).alloc (Nat.le_refl _) _).alloc (by simp) _).alloc (by simp; omega) _).alloc (by simp; omega) _).alloc (by simp; omega) _).alloc (by simp; omega) _).alloc (by simp; omega) _)
  have new : ∀ (W : World) (o : Array Value) (ty : TypeId) (N : Nat), W.heap.size = N → (W.alloc (.cells o ty)).heap[N]? = some (.cells o ty (0, 0)) := fun W o ty N h => by rw [← h]; exact heap_alloc_new _ _
  have old : ∀ (W : World) (o : Obj) (N : Nat), N < W.heap.size → (W.alloc o).heap[N]? = W.heap[N]? := fun W o N h => Below.heap_alloc _ _ _ h
  have b1 : W6.heap[w5.heap.size + 1]? = some (.cells #[.int .i64 1, .slice none 0 0, .slice none 0 0] 26 (0, 0)) := by
   rw [hW6, old _ _ _ (by simp <;> omega), old _ _ _ (by simp <;> omega), old _ _ _ (by simp <;> omega), old _ _ _ (by simp <;> omega), old _ _ _ (by simp)]; exact new _ _ _ _ (by simp)
  have b3 : W6.heap[w5.heap.size + 1 + 1 + 1]? = some (.cells #[.string ⟨#[97]⟩, .string ⟨#[98]⟩] 9 (0, 0)) := by
   rw [hW6, old _ _ _ (by simp <;> omega), old _ _ _ (by simp <;> omega), old _ _ _ (by simp)]; exact new _ _ _ _ (by simp)
  have b4 : W6.heap[w5.heap.size + 1 + 1 + 1 + 1]? = some (.cells #[.int .i64 4, .slice none 0 0, .slice (some ⟨w5.heap.size + 1, 0, none⟩) 1 1] 26 (0, 0)) := by
   rw [hW6, old _ _ _ (by simp <;> omega), old _ _ _ (by simp)]; exact new _ _ _ _ (by simp)
  have b5 : W6.heap[w5.heap.size + 1 + 1 + 1 + 1 + 1]? = some (.cells #[.int .i64 4, .slice none 0 0, .slice (some ⟨w5.heap.size + 1 + 1 + 1 + 1, 0, none⟩) 1 1, .int .i64 4, .slice none 0 0, .slice (some ⟨w5.heap.size + 1, 0, none⟩) 1 1] 26 (0, 0)) := by
   rw [hW6, old _ _ _ (by simp)]; exact new _ _ _ _ (by simp)
  have b6 : W6.heap[w5.heap.size + 1 + 1 + 1 + 1 + 1 + 1]? = some (.cells #[.int .i64 5, .slice (some ⟨w5.heap.size + 1 + 1 + 1, 0, none⟩) 2 2, .slice (some ⟨w5.heap.size + 1 + 1 + 1 + 1 + 1, 0, none⟩) 2 2] 26 (0, 0)) := by
   rw [hW6]; exact new _ _ _ _ (by simp)
  obtain ⟨N3, hN3⟩ : ∃ N, N = w5.heap.size + 1 + 1 + 1 := ⟨_, rfl⟩
  obtain ⟨N5, hN5⟩ : ∃ N, N = w5.heap.size + 1 + 1 + 1 + 1 + 1 := ⟨_, rfl⟩
  obtain ⟨N6, hN6⟩ : ∃ N, N = w5.heap.size + 1 + 1 + 1 + 1 + 1 + 1 := ⟨_, rfl⟩
  rw [← hN6, ← hN5, ← hN3] at b6
  rw [← hN5] at b5
  rw [← hN3] at b3
  have hN3a : w5.heap.size ≤ N3 ∧ N3 < W6.heap.size := by omega
  have hN5a : w5.heap.size ≤ N5 ∧ N5 < W6.heap.size := by omega
  have hN6a : w5.heap.size ≤ N6 ∧ N6 < W6.heap.size := by omega
  have HL : Hid (∀ W, Near R W6 W → (∀ q, KindIn (fun b => w5.heap.size ≤ b ∧ b < W6.heap.size) W (q + 4) (litK q) (.int .i64 5) (.slice (some ⟨N3, 0, none⟩) 2 2) (.slice (some ⟨N5, 0, none⟩) 2 2)) ∧ Box3 W N6 (.int .i64 5) (.slice (some ⟨N3, 0, none⟩) 2 2) (.slice (some ⟨N5, 0, none⟩) 2 2) ∧ Below W1.heap.size W1 W) := fun W hW => by
   refine ⟨fun q => litK_in (B1 := w5.heap.size + 1) (B4 := w5.heap.size + 1 + 1 + 1 + 1) q ⟨by omega, by omega⟩ ⟨by omega, by omega⟩ ⟨by omega, by omega⟩ ⟨by omega, by omega⟩ ((hW.block _ (by omega) (by omega)).trans b1) ((hW.block _ (by omega) (by omega)).trans b3) ((hW.block _ (by omega) (by omega)).trans b4) ((hW.block _ (by omega) (by omega)).trans b5), ?_, (HK.out W ((Near.of_below hb6).trans hW)).2.2⟩
   have e := (hW.block _ (by omega) (by omega)).trans b6
   exact ⟨by simp [World.cell?, e], by simp [World.cell?, e], by simp [World.cell?, e]⟩
  have hD6 : Dr W6 R ao L' cap (p4 + 1) := by
   have h : Dr w5 R ao L' cap (p4 + 1) := ⟨HD.out.1.box, HD.out.1.len, HD.out.1.bytes⟩
   exact h.same hb6
  have HP2 : Hid (∀ W, Below W6.heap.size W6 W → Calls Tryz.prog 25 #[.pointer (some ⟨R, 0, none⟩), .int .i64 2] W fun e w' => ∃ y : Nat, e = .returned (.int .i64 (y : Int)) ∧ y < 2 ∧ Near R W6 w' ∧ ∀ X, OneK W6.heap.size R (.int .i64 5) (.slice (some ⟨N3, 0, none⟩) 2 2) (.slice (some ⟨N5, 0, none⟩) 2 2) W X → OneK W6.heap.size R (.int .i64 5) (.slice (some ⟨N3, 0, none⟩) 2 2) (.slice (some ⟨N5, 0, none⟩) 2 2) w' X) := fun W hW => by
   refine (pick_any W R ao L' cap (p4 + 1) 2 (hD6.same hW) (by omega) (by omega) (by omega)).mono ?_
   rintro e w' ⟨y, rfl, hy, hn, -, -⟩
   exact ⟨y, rfl, hy, (Near.of_below hW).trans hn, fun X q => q.keep hn⟩
  have HX2 : Hid (∀ (W : World) (X Q : Nat) (d0 d1 d2 d3 d4 : Value), Near R W6 W → OneK W6.heap.size R (.int .i64 5) (.slice (some ⟨N3, 0, none⟩) 2 2) (.slice (some ⟨N5, 0, none⟩) 2 2) W X → W6.heap.size ≤ Q → (∃ t : T (m4 + 5), TreeIn (fun b => Q ≤ b ∧ b < W.heap.size) W (m4 + 5) t d0 d1 d2 d3 d4) → DrawnKKT (m4 + 5) w (.returned (.tuple #[.agg #[.int .i64 5, .slice (some ⟨N3, 0, none⟩) 2 2, .slice (some ⟨N5, 0, none⟩) 2 2], .agg #[.int .i64 6, .slice none 0 0, .slice (some ⟨X, 0, none⟩) 1 1], .agg #[d0, d1, d2, d3, d4]])) (put5 (put3 (put3 W w.heap.size 0 (.int .i64 5) (.slice (some ⟨N3, 0, none⟩) 2 2) (.slice (some ⟨N5, 0, none⟩) 2 2)) (w.heap.size + 1) 0 (.int .i64 6) (.slice none 0 0) (.slice (some ⟨X, 0, none⟩) 1 1)) (w.heap.size + 1 + 1) 0 d0 d1 d2 d3 d4)) := fun W X Q d0 d1 d2 d3 d4 hW q hK ht => by
   obtain ⟨t, ht⟩ := ht
   have hl := HL.out W hW
   have hsw := hW.size
   have hsq := q.lt
   have hMq := q.2.1
   refine kkt_exit HX.out.1 HX.out.2 hl.2.2 (a := litK (m4 + 1)) (b := (⟨6, [], [litK m4]⟩ : Kd (K (m4 + 4)))) (t := t) ((hl.1 (m4 + 1)).keep (fun _ _ => rfl) (fun b hb => ⟨by omega, by omega⟩)) (oneD_in rfl ⟨by omega, by omega⟩ (by simp [World.cell?, q.1]) (by simp [World.cell?, q.1]) (by simp [World.cell?, q.1]) ((hl.1 m4).keep (fun _ _ => rfl) (fun b hb => ⟨by omega, by omega⟩))) (ht.keep (fun _ _ => rfl) (fun b hb => ⟨by omega, hb.2⟩))
  have HF2 : Hid (∀ (W : World) (y : Nat) (x : Int), y < 2 → x = 120 - (y : Int) → Near R W6 W → Calls Tryz.prog 28 #[.int .i64 x] W fun e w' => ∃ x0 x1 x2 xxa xxl xxc xya xyl xyc, e = .returned (.agg #[.int .i64 x0, .int .i64 x1, .string x2, .slice xxa xxl xxc, .slice xya xyl xyc]) ∧ (w'.cell? ⟨N6, 0, none⟩ = some (.int .i64 5) ∧ w'.cell? ⟨N6, 1, none⟩ = some (.slice (some ⟨N3, 0, none⟩) 2 2) ∧ w'.cell? ⟨N6, 2, none⟩ = some (.slice (some ⟨N5, 0, none⟩) 2 2)) ∧ (w'.heap[w.heap.size]? = some (.cells #[.int .i64 0, .slice none 0 0, .slice none 0 0] 26 (0, 0)) ∧ w'.heap[w.heap.size + 1]? = some (.cells #[.int .i64 0, .slice none 0 0, .slice none 0 0] 26 (0, 0)) ∧ w'.heap[w.heap.size + 1 + 1]? = some (.cells #[.int .i64 0, .int .i64 0, .string ⟨#[]⟩, .slice none 0 0, .slice none 0 0] 29 (0, 0))) ∧ (Hid (∀ X, OneK W6.heap.size R (.int .i64 5) (.slice (some ⟨N3, 0, none⟩) 2 2) (.slice (some ⟨N5, 0, none⟩) 2 2) w' X → DrawnKKT (m4 + 5) w (.returned (.tuple #[.agg #[.int .i64 5, .slice (some ⟨N3, 0, none⟩) 2 2, .slice (some ⟨N5, 0, none⟩) 2 2], .agg #[.int .i64 6, .slice none 0 0, .slice (some ⟨X, 0, none⟩) 1 1], .agg #[.int .i64 x0, .int .i64 x1, .string x2, .slice xxa xxl xxc, .slice xya xyl xyc]])) (((((((((((w'.setCell ⟨w.heap.size, 0, none⟩ (.int .i64 5)).setCell ⟨w.heap.size, 1, none⟩ (.slice (some ⟨N3, 0, none⟩) 2 2)).setCell ⟨w.heap.size, 2, none⟩ (.slice (some ⟨N5, 0, none⟩) 2 2)).setCell ⟨w.heap.size + 1, 0, none⟩ (.int .i64 6)).setCell ⟨w.heap.size + 1, 1, none⟩ (.slice none 0 0)).setCell ⟨w.heap.size + 1, 2, none⟩ (.slice (some ⟨X, 0, none⟩) 1 1)).setCell ⟨w.heap.size + 1 + 1, 0, none⟩ (.int .i64 x0)).setCell ⟨w.heap.size + 1 + 1, 1, none⟩ (.int .i64 x1)).setCell ⟨w.heap.size + 1 + 1, 2, none⟩ (.string x2)).setCell ⟨w.heap.size + 1 + 1, 3, none⟩ (.slice xxa xxl xxc)).setCell ⟨w.heap.size + 1 + 1, 4, none⟩ (.slice xya xyl xyc))) ∧ Hid (DrawnKKT (m4 + 5) w (.returned (.tuple #[.agg #[.int .i64 5, .slice (some ⟨N3, 0, none⟩) 2 2, .slice (some ⟨N5, 0, none⟩) 2 2], .agg #[.int .i64 6, .slice none 0 0, .slice (some ⟨w'.heap.size, 0, none⟩) 1 1], .agg #[.int .i64 x0, .int .i64 x1, .string x2, .slice xxa xxl xxc, .slice xya xyl xyc]])) ((((((((((((w'.alloc (.cells #[.int .i64 5, .slice (some ⟨N3, 0, none⟩) 2 2, .slice (some ⟨N5, 0, none⟩) 2 2] 26)).setCell ⟨w.heap.size, 0, none⟩ (.int .i64 5)).setCell ⟨w.heap.size, 1, none⟩ (.slice (some ⟨N3, 0, none⟩) 2 2)).setCell ⟨w.heap.size, 2, none⟩ (.slice (some ⟨N5, 0, none⟩) 2 2)).setCell ⟨w.heap.size + 1, 0, none⟩ (.int .i64 6)).setCell ⟨w.heap.size + 1, 1, none⟩ (.slice none 0 0)).setCell ⟨w.heap.size + 1, 2, none⟩ (.slice (some ⟨w'.heap.size, 0, none⟩) 1 1)).setCell ⟨w.heap.size + 1 + 1, 0, none⟩ (.int .i64 x0)).setCell ⟨w.heap.size + 1 + 1, 1, none⟩ (.int .i64 x1)).setCell ⟨w.heap.size + 1 + 1, 2, none⟩ (.string x2)).setCell ⟨w.heap.size + 1 + 1, 3, none⟩ (.slice xxa xxl xxc)).setCell ⟨w.heap.size + 1 + 1, 4, none⟩ (.slice xya xyl xyc))) ∧ Hid (DrawnKKT (m4 + 5) w (.returned (.tuple #[.agg #[.int .i64 5, .slice (some ⟨N3, 0, none⟩) 2 2, .slice (some ⟨N5, 0, none⟩) 2 2], .agg #[.int .i64 6, .slice none 0 0, .slice (some ⟨w'.heap.size, 0, none⟩) 1 1], .agg #[.int .i64 x0, .int .i64 x1, .string x2, .slice xxa xxl xxc, .slice xya xyl xyc]])) ((((((((((((w'.setCell ⟨w.heap.size, 0, none⟩ (.int .i64 5)).setCell ⟨w.heap.size, 1, none⟩ (.slice (some ⟨N3, 0, none⟩) 2 2)).setCell ⟨w.heap.size, 2, none⟩ (.slice (some ⟨N5, 0, none⟩) 2 2)).alloc (.cells #[.int .i64 5, .slice (some ⟨N3, 0, none⟩) 2 2, .slice (some ⟨N5, 0, none⟩) 2 2] 26)).setCell ⟨w.heap.size + 1, 0, none⟩ (.int .i64 6)).setCell ⟨w.heap.size + 1, 1, none⟩ (.slice none 0 0)).setCell ⟨w.heap.size + 1, 2, none⟩ (.slice (some ⟨w'.heap.size, 0, none⟩) 1 1)).setCell ⟨w.heap.size + 1 + 1, 0, none⟩ (.int .i64 x0)).setCell ⟨w.heap.size + 1 + 1, 1, none⟩ (.int .i64 x1)).setCell ⟨w.heap.size + 1 + 1, 2, none⟩ (.string x2)).setCell ⟨w.heap.size + 1 + 1, 3, none⟩ (.slice xxa xxl xxc)).setCell ⟨w.heap.size + 1 + 1, 4, none⟩ (.slice xya xyl xyc)))) ∧ W6.heap.size ≤ w'.heap.size ∧ ∀ X, OneK W6.heap.size R (.int .i64 5) (.slice (some ⟨N3, 0, none⟩) 2 2) (.slice (some ⟨N5, 0, none⟩) 2 2) W X → OneK W6.heap.size R (.int .i64 5) (.slice (some ⟨N3, 0, none⟩) 2 2) (.slice (some ⟨N5, 0, none⟩) 2 2) w' X) := fun W y x hy hx hW => by
   subst hx
   have h := l5Full_any (120 - y) W (by omega) (by omega)
   rw [show ((120 - y : Nat) : Int) = 120 - (y : Int) by omega] at h
   refine h.mono ?_
   rintro e w' ⟨hb', d0, d1, d2, d3, d4, rfl, ht⟩
   obtain ⟨t, ht, -⟩ := ht (m4 + 5) (by omega)
   obtain ⟨x0, x1, x2, xxa, xxl, xxc, xya, xyl, xyc, rfl, rfl, rfl, rfl, rfl⟩ := ht.shape
   have hn : Near R W6 w' := hW.trans (Near.of_below hb')
   have hl := HL.out w' hn
   have hl' := HL.out (w'.alloc (.cells #[.int .i64 5, .slice (some ⟨N3, 0, none⟩) 2 2, .slice (some ⟨N5, 0, none⟩) 2 2] 26)) (nearA hn)
   have hs' := hn.size
   have hF3 := HX2.out (w'.alloc (.cells #[.int .i64 5, .slice (some ⟨N3, 0, none⟩) 2 2, .slice (some ⟨N5, 0, none⟩) 2 2] 26)) w'.heap.size _ _ _ _ _ _ (nearA hn) (oneK_at w' (by omega) (by omega)) hW.size (tree_ex_alloc ⟨t, ht⟩)
   exact ⟨_, _, _, _, _, _, _, _, _, rfl, ⟨hl.2.1.c0, hl.2.1.c1, hl.2.1.c2⟩, HZ.out w' hl.2.2, ⟨fun X q => HX2.out w' X _ _ _ _ _ _ hn q hW.size ⟨t, ht⟩, hF3, (by show DrawnKKT _ _ _ (put5 (put3 ((put3 w' w.heap.size 0 (.int .i64 5) (.slice (some ⟨N3, 0, none⟩) 2 2) (.slice (some ⟨N5, 0, none⟩) 2 2)).alloc _) _ _ _ _ _) _ _ _ _ _ _ _); rw [put3_alloc (by omega)]; exact hF3)⟩, hs', fun X q => q.keep (Near.of_below hb')⟩
  have hd6 : Below W6.heap.size W6 W6.drew := (Below.refl _ _).drew
  have hB6 := (HL.out W6 (Near.refl _ _)).2.1
  obtain ⟨c0, c1, c2⟩ := hB6
  clear hD6 HD HDr b1 b3 b4 b5 b6 new old hb6 HK HX i0 i1 i2 j0 j1 j2 k0 k1 k2 k3 k4 n0 n1 n2 n3 n4 n5 n6 n7 n8
  go_upto_region 15 with fail
  rw [← hW6, ← hN6, ← hN5, ← hN3]
  have x6 : ¬ W6.heap.size = N6 := by omega
  have ne0 : ¬ w.heap.size = N6 := by omega
  have ne1 : ¬ w.heap.size + 1 = N6 := by omega
  have ne2 : ¬ w.heap.size + 1 + 1 = N6 := by omega
  have hq1 : w.heap.size + 3 ≤ W6.heap.size := by omega
  have hq2 : R < W6.heap.size := by omega
  have hq3 : N6 < W6.heap.size := hN6a.2
  clear hW6 hN6 hN5 hN3 hN3a hN5a hN6a hz1' hRl hs1 hs3 hzz3 hs4 hzz4 hs5 hsd hz6 hz hS hm hR
  have HC6 : Hid (∀ W, Near R W6 W → W.cell? ⟨N6, 0, none⟩ = some (.int .i64 5) ∧ W.cell? ⟨N6, 1, none⟩ = some (.slice (some ⟨N3, 0, none⟩) 2 2) ∧ W.cell? ⟨N6, 2, none⟩ = some (.slice (some ⟨N5, 0, none⟩) 2 2)) := fun W hW => ⟨(HL.out W hW).2.1.c0, (HL.out W hW).2.1.c1, (HL.out W hW).2.1.c2⟩
  have hnd : Near R W6 W6.drew := (Near.refl _ _).drew
  have hbd : Below W6.heap.size W6 W6.drew := (Below.refl _ _).drew
  refine wp_region_held_drew (S := (fun w' => w'.cell? ⟨N6, 0, none⟩ = some (.int .i64 5) ∧ w'.cell? ⟨N6, 1, none⟩ = some (.slice (some ⟨N3, 0, none⟩) 2 2) ∧ w'.cell? ⟨N6, 2, none⟩ = some (.slice (some ⟨N5, 0, none⟩) 2 2))) (by kernel_rfl) (HC6.out _ hnd) (fun hHeld => ?_)
  refine wpAnyH_take (i := 0) (v := ?_) rfl (by kernel_rfl) (by kernel_rfl) (by kernel_rfl) (fun _ _ _ h => h) (Or.inl ⟨by rfl, ?_⟩) (by assumption) ?_
  rotate_left 1
  · (intro wq hSw; (try dsimp only at hSw); go_simp; first | done | with_reducible rfl)
  refine wpAnyH_take (i := 1) (v := ?_) rfl (by kernel_rfl) (by kernel_rfl) (by kernel_rfl) (fun _ _ _ h => h) (Or.inl ⟨by rfl, ?_⟩) (by assumption) ?_
  rotate_left 1
  · (intro wq hSw; (try dsimp only at hSw); go_simp; first | done | with_reducible rfl)
  refine wpAnyH_take (i := 4) (v := ?_) rfl (by kernel_rfl) (by kernel_rfl) (by kernel_rfl) (fun _ _ _ h => h) (Or.inl ⟨by rfl, ?_⟩) (by assumption) ?_
  rotate_left 1
  · (intro wq hSw; (try dsimp only at hSw); go_simp; first | done | with_reducible rfl)
  refine wpAnyH_ready (rs := [2, 5]) (by kernel_rfl) (by simp) ?_
  refine AllReadyH.cons rfl (fun K hK => ?_) (AllReadyH.cons rfl (fun K hK => ?_) AllReadyH.nil)
  ·
   go_simp
   refine hK.out _ _ (HC6.out _ (nearAD hnd)) (fun hHeld => ?_)
   clear hK K
   refine wpAnyH_take (i := 3) (v := ?_) rfl (by kernel_rfl) (by kernel_rfl) (by kernel_rfl) (fun _ _ _ h => h) (Or.inl ⟨by rfl, ?_⟩) (by assumption) ?_
   rotate_left 1
   · (intro wq hSw; (try dsimp only at hSw); go_simp; first | done | with_reducible rfl)
   obtain ⟨VA, hVA⟩ : ∃ V, V = (W6.alloc (.cells #[.int .i64 5, .slice (some ⟨N3, 0, none⟩) 2 2, .slice (some ⟨N5, 0, none⟩) 2 2] 26)).drew := ⟨_, rfl⟩
   rw [← hVA]
   have hbA : Below W6.heap.size W6 VA := by rw [hVA]; exact belowAD hbd
   have qA : OneK W6.heap.size R (.int .i64 5) (.slice (some ⟨N3, 0, none⟩) 2 2) (.slice (some ⟨N5, 0, none⟩) 2 2) VA W6.heap.size := by rw [hVA]; exact oneK_atD W6 (Nat.le_refl _) hq2
   have HVA := Lib.hid hVA
   clear hVA
   refine wpAnyH_ready (rs := [5]) (by kernel_rfl) (by simp) ?_
   refine AllReadyH.cons rfl (fun K hK => ?_) AllReadyH.nil
   go_simp
   go_at_call 25
   refine (HP2.out VA hbA).mono ?_
   rintro e w7 ⟨y, rfl, hy, hn7, hq7⟩
   have hz7 := hn7.size
   refine hK.out _ _ (HC6.out w7 hn7) (fun hHeld => ?_)
   clear hK K
   refine wpAnyH_take (i := 6) (v := ?_) rfl (by kernel_rfl) (by kernel_rfl) (by kernel_rfl) (fun _ _ _ h => h) (Or.inl ⟨by rfl, ?_⟩) (by assumption) ?_
   rotate_left 1
   · (intro wq hSw; (try dsimp only at hSw); go_simp; first | done | with_reducible rfl)
   refine wpAnyH_ready (rs := [7]) (by kernel_rfl) (by simp) ?_
   refine AllReadyH.cons rfl (fun K hK => ?_) AllReadyH.nil
   go_simp
   go_at_call 28
   refine (HF2.out w7 y _ hy ?_ hn7).mono ?_
   · (obtain rfl | rfl : y = 0 ∨ y = 1 := (by omega)) <;> rfl
   rintro e w8 ⟨x0, x1, x2, xxa, xxl, xxc, xya, xyl, xyc, rfl, sc, ⟨b0, b1, b2⟩, ⟨HA, HA3, HA4⟩, hz8, hq8⟩
   refine hK.out _ _ (sc) (fun hHeld => ?_)
   clear hK K
   have HF := Lib.hid (HA.out _ (hq8 _ (hq7 _ qA)))
   clear hq7 hq8 qA hbA HA HA3 HA4 HVA
   have hne0 : N6 ≠ w.heap.size := by omega
   obtain ⟨⟨r0, r1, r2⟩, f0, f1, f2⟩ := zeroD_cells b0
   refine wpAnyH_ready (rs := [8]) (by kernel_rfl) (by simp) ?_
   refine AllReadyH.cons rfl (fun K hK => ?_) AllReadyH.nil
   go_simp
   refine hK.out _ _ (cells3_set3 hne0 sc) (fun hHeld => ?_)
   clear hK K
   clear r0 r1 r2 f0 f1 f2
   have sc1 := cells3_set3 (a := (.int .i64 5)) (b := (.slice (some ⟨N3, 0, none⟩) 2 2)) (c := (.slice (some ⟨N5, 0, none⟩) 2 2)) hne0 sc
   have b11 := (set3_other (W := w8) (N := w.heap.size) (M := w.heap.size + 1) (a := (.int .i64 5)) (b := (.slice (some ⟨N3, 0, none⟩) 2 2)) (c := (.slice (some ⟨N5, 0, none⟩) 2 2)) (by omega)).trans b1
   have b21 := (set3_other (W := w8) (N := w.heap.size) (M := w.heap.size + 1 + 1) (a := (.int .i64 5)) (b := (.slice (some ⟨N3, 0, none⟩) 2 2)) (c := (.slice (some ⟨N5, 0, none⟩) 2 2)) (by omega)).trans b2
   have x01 := set3_boxz (a := (.int .i64 5)) (b := (.slice (some ⟨N3, 0, none⟩) 2 2)) (c := (.slice (some ⟨N5, 0, none⟩) 2 2)) b0
   have sz1 := set3_size w8 (w.heap.size) (.int .i64 5) (.slice (some ⟨N3, 0, none⟩) 2 2) (.slice (some ⟨N5, 0, none⟩) 2 2)
   obtain ⟨U1, hU1⟩ : ∃ V, V = (((w8.setCell ⟨w.heap.size, 0, none⟩ (.int .i64 5)).setCell ⟨w.heap.size, 1, none⟩ (.slice (some ⟨N3, 0, none⟩) 2 2)).setCell ⟨w.heap.size, 2, none⟩ (.slice (some ⟨N5, 0, none⟩) 2 2)) := ⟨_, rfl⟩
   rw [← hU1]
   rw [← hU1] at sc1 b11 b21 x01 sz1
   have HU1 := Lib.hid hU1
   clear hU1
   have hne1 : N6 ≠ w.heap.size + 1 := by omega
   obtain ⟨⟨r0, r1, r2⟩, f0, f1, f2⟩ := zeroD_cells b11
   refine wpAnyH_ready (rs := [9]) (by kernel_rfl) (by simp) ?_
   refine AllReadyH.cons rfl (fun K hK => ?_) AllReadyH.nil
   go_simp
   refine hK.out _ _ (cells3_set3 hne1 sc1) (fun hHeld => ?_)
   clear hK K
   clear r0 r1 r2 f0 f1 f2
   have sc2 := cells3_set3 (a := (.int .i64 6)) (b := (.slice none 0 0)) (c := (.slice (some ⟨W6.heap.size, 0, none⟩) 1 1)) hne1 sc1
   have b22 := (set3_other (W := U1) (N := w.heap.size + 1) (M := w.heap.size + 1 + 1) (a := (.int .i64 6)) (b := (.slice none 0 0)) (c := (.slice (some ⟨W6.heap.size, 0, none⟩) 1 1)) (by omega)).trans b21
   have x02 := box3_at x01 (set3_other (W := U1) (N := w.heap.size + 1) (M := w.heap.size) (a := (.int .i64 6)) (b := (.slice none 0 0)) (c := (.slice (some ⟨W6.heap.size, 0, none⟩) 1 1)) (by omega))
   have x12 := set3_boxz (a := (.int .i64 6)) (b := (.slice none 0 0)) (c := (.slice (some ⟨W6.heap.size, 0, none⟩) 1 1)) b11
   obtain ⟨U2, hU2⟩ : ∃ V, V = (((U1.setCell ⟨w.heap.size + 1, 0, none⟩ (.int .i64 6)).setCell ⟨w.heap.size + 1, 1, none⟩ (.slice none 0 0)).setCell ⟨w.heap.size + 1, 2, none⟩ (.slice (some ⟨W6.heap.size, 0, none⟩) 1 1)) := ⟨_, rfl⟩
   rw [← hU2]
   rw [← hU2] at sc2 b22 x02 x12
   have HU2 := Lib.hid hU2
   clear hU2
   have hne2 : N6 ≠ w.heap.size + 1 + 1 := by omega
   obtain ⟨⟨r0, r1, r2, r3, r4⟩, f0, f1, f2, f3, f4⟩ := five_cells b22
   refine wpAnyH_ready (rs := [10]) (by kernel_rfl) (by simp) ?_
   refine AllReadyH.cons rfl (fun K hK => ?_) AllReadyH.nil
   go_simp
   refine hK.out _ _ (cells3_set5 hne2 sc2) (fun hHeld => ?_)
   clear hK K
   clear r0 r1 r2 r3 r4 f0 f1 f2 f3 f4
   refine wpAnyH_done (by kernel_rfl) ?_ _
   have x03 := box3_at x02 (set5_other (W := U2) (N := w.heap.size + 1 + 1) (M := w.heap.size) (a := (.int .i64 x0)) (b := (.int .i64 x1)) (c := (.string x2)) (d := (.slice xxa xxl xxc)) (e := (.slice xya xyl xyc)) (by omega))
   have x13 := box3_at x12 (set5_other (W := U2) (N := w.heap.size + 1 + 1) (M := w.heap.size + 1) (a := (.int .i64 x0)) (b := (.int .i64 x1)) (c := (.string x2)) (d := (.slice xxa xxl xxc)) (e := (.slice xya xyl xyc)) (by omega))
   have x23 := set5_boxz (g0 := (.int .i64 x0)) (g1 := (.int .i64 x1)) (g2 := (.string x2)) (g3 := (.slice xxa xxl xxc)) (g4 := (.slice xya xyl xyc)) b22
   obtain ⟨U3, hU3⟩ : ∃ V, V = (((((U2.setCell ⟨w.heap.size + 1 + 1, 0, none⟩ (.int .i64 x0)).setCell ⟨w.heap.size + 1 + 1, 1, none⟩ (.int .i64 x1)).setCell ⟨w.heap.size + 1 + 1, 2, none⟩ (.string x2)).setCell ⟨w.heap.size + 1 + 1, 3, none⟩ (.slice xxa xxl xxc)).setCell ⟨w.heap.size + 1 + 1, 4, none⟩ (.slice xya xyl xyc)) := ⟨_, rfl⟩
   rw [← hU3]
   rw [← hU3] at x03 x13 x23
   have HU3 := Lib.hid hU3
   clear hU3
   have HFF : Hid (DrawnKKT (m4 + 5) w (.returned (.tuple #[.agg #[.int .i64 5, .slice (some ⟨N3, 0, none⟩) 2 2, .slice (some ⟨N5, 0, none⟩) 2 2], .agg #[.int .i64 6, .slice none 0 0, .slice (some ⟨W6.heap.size, 0, none⟩) 1 1], .agg #[.int .i64 x0, .int .i64 x1, .string x2, .slice xxa xxl xxc, .slice xya xyl xyc]])) U3) := by
    show DrawnKKT _ _ _ _
    rw [HU3.out, HU2.out, HU1.out]
    exact HF.out
   obtain ⟨r0, r1, r2⟩ := x03
   obtain ⟨o0, o1, o2⟩ := x13
   obtain ⟨p0, p1, p2, p3, p4⟩ := x23
   clear sc2 b22 x02 x12 sc1 b11 b21 x01 HU3 HU2 hHeld
   go_wp2_with fail
   refine bodyPost_ret (v := .tuple #[.agg #[.int .i64 5, .slice (some ⟨N3, 0, none⟩) 2 2, .slice (some ⟨N5, 0, none⟩) 2 2], .agg #[.int .i64 6, .slice none 0 0, .slice (some ⟨W6.heap.size, 0, none⟩) 1 1], .agg #[.int .i64 x0, .int .i64 x1, .string x2, .slice xxa xxl xxc, .slice xya xyl xyc]]) (by simp [results, Tryz.results5, go_sem, r0, r1, r2, o0, o1, o2, p0, p1, p2, p3, p4]) rfl ?_
   exact HFF.out
  ·
   go_simp
   go_at_call 25
   refine (HP2.out W6.drew hbd).mono ?_
   rintro e w7 ⟨y, rfl, hy, hn7, hq7⟩
   have hz7 := hn7.size
   refine hK.out _ _ (HC6.out w7 hn7) (fun hHeld => ?_)
   clear hK K
   refine wpAnyH_take (i := 6) (v := ?_) rfl (by kernel_rfl) (by kernel_rfl) (by kernel_rfl) (fun _ _ _ h => h) (Or.inl ⟨by rfl, ?_⟩) (by assumption) ?_
   rotate_left 1
   · (intro wq hSw; (try dsimp only at hSw); go_simp; first | done | with_reducible rfl)
   refine wpAnyH_ready (rs := [2, 7]) (by kernel_rfl) (by simp) ?_
   refine AllReadyH.cons rfl (fun K hK => ?_) (AllReadyH.cons rfl (fun K hK => ?_) AllReadyH.nil)
   ·
    go_simp
    refine hK.out _ _ (HC6.out _ (nearA hn7)) (fun hHeld => ?_)
    clear hK K
    refine wpAnyH_take (i := 3) (v := ?_) rfl (by kernel_rfl) (by kernel_rfl) (by kernel_rfl) (fun _ _ _ h => h) (Or.inl ⟨by rfl, ?_⟩) (by assumption) ?_
    rotate_left 1
    · (intro wq hSw; (try dsimp only at hSw); go_simp; first | done | with_reducible rfl)
    obtain ⟨VB, hVB⟩ : ∃ V, V = w7.alloc (.cells #[.int .i64 5, .slice (some ⟨N3, 0, none⟩) 2 2, .slice (some ⟨N5, 0, none⟩) 2 2] 26) := ⟨_, rfl⟩
    rw [← hVB]
    have hnB : Near R W6 VB := by rw [hVB]; exact nearA hn7
    have qB : OneK W6.heap.size R (.int .i64 5) (.slice (some ⟨N3, 0, none⟩) 2 2) (.slice (some ⟨N5, 0, none⟩) 2 2) VB w7.heap.size := by rw [hVB]; exact oneK_at w7 hz7 hq2
    have HVB := Lib.hid hVB
    clear hVB
    refine wpAnyH_ready (rs := [7]) (by kernel_rfl) (by simp) ?_
    refine AllReadyH.cons rfl (fun K hK => ?_) AllReadyH.nil
    go_simp
    go_at_call 28
    refine (HF2.out VB y _ hy ?_ hnB).mono ?_
    · (obtain rfl | rfl : y = 0 ∨ y = 1 := (by omega)) <;> rfl
    rintro e w8 ⟨x0, x1, x2, xxa, xxl, xxc, xya, xyl, xyc, rfl, sc, ⟨b0, b1, b2⟩, ⟨HA, HA3, HA4⟩, hz8, hq8⟩
    refine hK.out _ _ (sc) (fun hHeld => ?_)
    clear hK K
    have HF := Lib.hid (HA.out _ (hq8 _ qB))
    clear hq7 hq8 qB hnB HA HA3 HA4 HVB
    have hne0 : N6 ≠ w.heap.size := by omega
    obtain ⟨⟨r0, r1, r2⟩, f0, f1, f2⟩ := zeroD_cells b0
    refine wpAnyH_ready (rs := [8]) (by kernel_rfl) (by simp) ?_
    refine AllReadyH.cons rfl (fun K hK => ?_) AllReadyH.nil
    go_simp
    refine hK.out _ _ (cells3_set3 hne0 sc) (fun hHeld => ?_)
    clear hK K
    clear r0 r1 r2 f0 f1 f2
    have sc1 := cells3_set3 (a := (.int .i64 5)) (b := (.slice (some ⟨N3, 0, none⟩) 2 2)) (c := (.slice (some ⟨N5, 0, none⟩) 2 2)) hne0 sc
    have b11 := (set3_other (W := w8) (N := w.heap.size) (M := w.heap.size + 1) (a := (.int .i64 5)) (b := (.slice (some ⟨N3, 0, none⟩) 2 2)) (c := (.slice (some ⟨N5, 0, none⟩) 2 2)) (by omega)).trans b1
    have b21 := (set3_other (W := w8) (N := w.heap.size) (M := w.heap.size + 1 + 1) (a := (.int .i64 5)) (b := (.slice (some ⟨N3, 0, none⟩) 2 2)) (c := (.slice (some ⟨N5, 0, none⟩) 2 2)) (by omega)).trans b2
    have x01 := set3_boxz (a := (.int .i64 5)) (b := (.slice (some ⟨N3, 0, none⟩) 2 2)) (c := (.slice (some ⟨N5, 0, none⟩) 2 2)) b0
    have sz1 := set3_size w8 (w.heap.size) (.int .i64 5) (.slice (some ⟨N3, 0, none⟩) 2 2) (.slice (some ⟨N5, 0, none⟩) 2 2)
    obtain ⟨U1, hU1⟩ : ∃ V, V = (((w8.setCell ⟨w.heap.size, 0, none⟩ (.int .i64 5)).setCell ⟨w.heap.size, 1, none⟩ (.slice (some ⟨N3, 0, none⟩) 2 2)).setCell ⟨w.heap.size, 2, none⟩ (.slice (some ⟨N5, 0, none⟩) 2 2)) := ⟨_, rfl⟩
    rw [← hU1]
    rw [← hU1] at sc1 b11 b21 x01 sz1
    have HU1 := Lib.hid hU1
    clear hU1
    have hne1 : N6 ≠ w.heap.size + 1 := by omega
    obtain ⟨⟨r0, r1, r2⟩, f0, f1, f2⟩ := zeroD_cells b11
    refine wpAnyH_ready (rs := [9]) (by kernel_rfl) (by simp) ?_
    refine AllReadyH.cons rfl (fun K hK => ?_) AllReadyH.nil
    go_simp
    refine hK.out _ _ (cells3_set3 hne1 sc1) (fun hHeld => ?_)
    clear hK K
    clear r0 r1 r2 f0 f1 f2
    have sc2 := cells3_set3 (a := (.int .i64 6)) (b := (.slice none 0 0)) (c := (.slice (some ⟨w7.heap.size, 0, none⟩) 1 1)) hne1 sc1
    have b22 := (set3_other (W := U1) (N := w.heap.size + 1) (M := w.heap.size + 1 + 1) (a := (.int .i64 6)) (b := (.slice none 0 0)) (c := (.slice (some ⟨w7.heap.size, 0, none⟩) 1 1)) (by omega)).trans b21
    have x02 := box3_at x01 (set3_other (W := U1) (N := w.heap.size + 1) (M := w.heap.size) (a := (.int .i64 6)) (b := (.slice none 0 0)) (c := (.slice (some ⟨w7.heap.size, 0, none⟩) 1 1)) (by omega))
    have x12 := set3_boxz (a := (.int .i64 6)) (b := (.slice none 0 0)) (c := (.slice (some ⟨w7.heap.size, 0, none⟩) 1 1)) b11
    obtain ⟨U2, hU2⟩ : ∃ V, V = (((U1.setCell ⟨w.heap.size + 1, 0, none⟩ (.int .i64 6)).setCell ⟨w.heap.size + 1, 1, none⟩ (.slice none 0 0)).setCell ⟨w.heap.size + 1, 2, none⟩ (.slice (some ⟨w7.heap.size, 0, none⟩) 1 1)) := ⟨_, rfl⟩
    rw [← hU2]
    rw [← hU2] at sc2 b22 x02 x12
    have HU2 := Lib.hid hU2
    clear hU2
    have hne2 : N6 ≠ w.heap.size + 1 + 1 := by omega
    obtain ⟨⟨r0, r1, r2, r3, r4⟩, f0, f1, f2, f3, f4⟩ := five_cells b22
    refine wpAnyH_ready (rs := [10]) (by kernel_rfl) (by simp) ?_
    refine AllReadyH.cons rfl (fun K hK => ?_) AllReadyH.nil
    go_simp
    refine hK.out _ _ (cells3_set5 hne2 sc2) (fun hHeld => ?_)
    clear hK K
    clear r0 r1 r2 r3 r4 f0 f1 f2 f3 f4
    refine wpAnyH_done (by kernel_rfl) ?_ _
    have x03 := box3_at x02 (set5_other (W := U2) (N := w.heap.size + 1 + 1) (M := w.heap.size) (a := (.int .i64 x0)) (b := (.int .i64 x1)) (c := (.string x2)) (d := (.slice xxa xxl xxc)) (e := (.slice xya xyl xyc)) (by omega))
    have x13 := box3_at x12 (set5_other (W := U2) (N := w.heap.size + 1 + 1) (M := w.heap.size + 1) (a := (.int .i64 x0)) (b := (.int .i64 x1)) (c := (.string x2)) (d := (.slice xxa xxl xxc)) (e := (.slice xya xyl xyc)) (by omega))
    have x23 := set5_boxz (g0 := (.int .i64 x0)) (g1 := (.int .i64 x1)) (g2 := (.string x2)) (g3 := (.slice xxa xxl xxc)) (g4 := (.slice xya xyl xyc)) b22
    obtain ⟨U3, hU3⟩ : ∃ V, V = (((((U2.setCell ⟨w.heap.size + 1 + 1, 0, none⟩ (.int .i64 x0)).setCell ⟨w.heap.size + 1 + 1, 1, none⟩ (.int .i64 x1)).setCell ⟨w.heap.size + 1 + 1, 2, none⟩ (.string x2)).setCell ⟨w.heap.size + 1 + 1, 3, none⟩ (.slice xxa xxl xxc)).setCell ⟨w.heap.size + 1 + 1, 4, none⟩ (.slice xya xyl xyc)) := ⟨_, rfl⟩
    rw [← hU3]
    rw [← hU3] at x03 x13 x23
    have HU3 := Lib.hid hU3
    clear hU3
    have HFF : Hid (DrawnKKT (m4 + 5) w (.returned (.tuple #[.agg #[.int .i64 5, .slice (some ⟨N3, 0, none⟩) 2 2, .slice (some ⟨N5, 0, none⟩) 2 2], .agg #[.int .i64 6, .slice none 0 0, .slice (some ⟨w7.heap.size, 0, none⟩) 1 1], .agg #[.int .i64 x0, .int .i64 x1, .string x2, .slice xxa xxl xxc, .slice xya xyl xyc]])) U3) := by
     show DrawnKKT _ _ _ _
     rw [HU3.out, HU2.out, HU1.out]
     exact HF.out
    obtain ⟨r0, r1, r2⟩ := x03
    obtain ⟨o0, o1, o2⟩ := x13
    obtain ⟨p0, p1, p2, p3, p4⟩ := x23
    clear sc2 b22 x02 x12 sc1 b11 b21 x01 HU3 HU2 hHeld
    go_wp2_with fail
    refine bodyPost_ret (v := .tuple #[.agg #[.int .i64 5, .slice (some ⟨N3, 0, none⟩) 2 2, .slice (some ⟨N5, 0, none⟩) 2 2], .agg #[.int .i64 6, .slice none 0 0, .slice (some ⟨w7.heap.size, 0, none⟩) 1 1], .agg #[.int .i64 x0, .int .i64 x1, .string x2, .slice xxa xxl xxc, .slice xya xyl xyc]]) (by simp [results, Tryz.results5, go_sem, r0, r1, r2, o0, o1, o2, p0, p1, p2, p3, p4]) rfl ?_
    exact HFF.out
   ·
    go_simp
    go_at_call 28
    refine (HF2.out w7 y _ hy ?_ hn7).mono ?_
    · (obtain rfl | rfl : y = 0 ∨ y = 1 := (by omega)) <;> rfl
    rintro e w8 ⟨x0, x1, x2, xxa, xxl, xxc, xya, xyl, xyc, rfl, sc, ⟨b0, b1, b2⟩, ⟨HA, HA3, HA4⟩, hz8, hq8⟩
    refine hK.out _ _ (sc) (fun hHeld => ?_)
    clear hK K
    refine wpAnyH_ready (rs := [2, 8]) (by kernel_rfl) (by simp) ?_
    refine AllReadyH.cons rfl (fun K hK => ?_) (AllReadyH.cons rfl (fun K hK => ?_) AllReadyH.nil)
    ·
     go_simp
     refine hK.out _ _ (cells3_alloc sc (by omega)) (fun hHeld => ?_)
     clear hK K
     refine wpAnyH_take (i := 3) (v := ?_) rfl (by kernel_rfl) (by kernel_rfl) (by kernel_rfl) (fun _ _ _ h => h) (Or.inl ⟨by rfl, ?_⟩) (by assumption) ?_
     rotate_left 1
     · (intro wq hSw; (try dsimp only at hSw); go_simp; first | done | with_reducible rfl)
     have scC := cells3_alloc (o := (.cells #[.int .i64 5, .slice (some ⟨N3, 0, none⟩) 2 2, .slice (some ⟨N5, 0, none⟩) 2 2] 26)) sc (by omega)
     have b0C : (w8.alloc (.cells #[.int .i64 5, .slice (some ⟨N3, 0, none⟩) 2 2, .slice (some ⟨N5, 0, none⟩) 2 2] 26)).heap[w.heap.size]? = some (.cells #[.int .i64 0, .slice none 0 0, .slice none 0 0] 26 (0, 0)) := (Below.heap_alloc _ _ _ (by omega)).trans b0
     have b1C : (w8.alloc (.cells #[.int .i64 5, .slice (some ⟨N3, 0, none⟩) 2 2, .slice (some ⟨N5, 0, none⟩) 2 2] 26)).heap[w.heap.size + 1]? = some (.cells #[.int .i64 0, .slice none 0 0, .slice none 0 0] 26 (0, 0)) := (Below.heap_alloc _ _ _ (by omega)).trans b1
     have b2C : (w8.alloc (.cells #[.int .i64 5, .slice (some ⟨N3, 0, none⟩) 2 2, .slice (some ⟨N5, 0, none⟩) 2 2] 26)).heap[w.heap.size + 1 + 1]? = some (.cells #[.int .i64 0, .int .i64 0, .string ⟨#[]⟩, .slice none 0 0, .slice none 0 0] 29 (0, 0)) := (Below.heap_alloc _ _ _ (by omega)).trans b2
     clear sc b0 b1 b2 hq7 hq8 HA HA4
     obtain ⟨VC, hVC⟩ : ∃ V, V = w8.alloc (.cells #[.int .i64 5, .slice (some ⟨N3, 0, none⟩) 2 2, .slice (some ⟨N5, 0, none⟩) 2 2] 26) := ⟨_, rfl⟩
     rw [← hVC]
     rw [← hVC] at scC b0C b1C b2C
     have HF : Hid (DrawnKKT (m4 + 5) w (.returned (.tuple #[.agg #[.int .i64 5, .slice (some ⟨N3, 0, none⟩) 2 2, .slice (some ⟨N5, 0, none⟩) 2 2], .agg #[.int .i64 6, .slice none 0 0, .slice (some ⟨w8.heap.size, 0, none⟩) 1 1], .agg #[.int .i64 x0, .int .i64 x1, .string x2, .slice xxa xxl xxc, .slice xya xyl xyc]])) (((((((((((VC.setCell ⟨w.heap.size, 0, none⟩ (.int .i64 5)).setCell ⟨w.heap.size, 1, none⟩ (.slice (some ⟨N3, 0, none⟩) 2 2)).setCell ⟨w.heap.size, 2, none⟩ (.slice (some ⟨N5, 0, none⟩) 2 2)).setCell ⟨w.heap.size + 1, 0, none⟩ (.int .i64 6)).setCell ⟨w.heap.size + 1, 1, none⟩ (.slice none 0 0)).setCell ⟨w.heap.size + 1, 2, none⟩ (.slice (some ⟨w8.heap.size, 0, none⟩) 1 1)).setCell ⟨w.heap.size + 1 + 1, 0, none⟩ (.int .i64 x0)).setCell ⟨w.heap.size + 1 + 1, 1, none⟩ (.int .i64 x1)).setCell ⟨w.heap.size + 1 + 1, 2, none⟩ (.string x2)).setCell ⟨w.heap.size + 1 + 1, 3, none⟩ (.slice xxa xxl xxc)).setCell ⟨w.heap.size + 1 + 1, 4, none⟩ (.slice xya xyl xyc))) := by
      show DrawnKKT _ _ _ _
      rw [hVC]
      exact HA3.out
     clear HA3 hVC
     obtain ⟨sc, b0, b1, b2⟩ : (VC.cell? ⟨N6, 0, none⟩ = some (.int .i64 5) ∧ VC.cell? ⟨N6, 1, none⟩ = some (.slice (some ⟨N3, 0, none⟩) 2 2) ∧ VC.cell? ⟨N6, 2, none⟩ = some (.slice (some ⟨N5, 0, none⟩) 2 2)) ∧ VC.heap[w.heap.size]? = some (.cells #[.int .i64 0, .slice none 0 0, .slice none 0 0] 26 (0, 0)) ∧ VC.heap[w.heap.size + 1]? = some (.cells #[.int .i64 0, .slice none 0 0, .slice none 0 0] 26 (0, 0)) ∧ VC.heap[w.heap.size + 1 + 1]? = some (.cells #[.int .i64 0, .int .i64 0, .string ⟨#[]⟩, .slice none 0 0, .slice none 0 0] 29 (0, 0)) := ⟨scC, b0C, b1C, b2C⟩
     clear scC b0C b1C b2C
     have hne0 : N6 ≠ w.heap.size := by omega
     obtain ⟨⟨r0, r1, r2⟩, f0, f1, f2⟩ := zeroD_cells b0
     refine wpAnyH_ready (rs := [8]) (by kernel_rfl) (by simp) ?_
     refine AllReadyH.cons rfl (fun K hK => ?_) AllReadyH.nil
     go_simp
     refine hK.out _ _ (cells3_set3 hne0 sc) (fun hHeld => ?_)
     clear hK K
     clear r0 r1 r2 f0 f1 f2
     have sc1 := cells3_set3 (a := (.int .i64 5)) (b := (.slice (some ⟨N3, 0, none⟩) 2 2)) (c := (.slice (some ⟨N5, 0, none⟩) 2 2)) hne0 sc
     have b11 := (set3_other (W := VC) (N := w.heap.size) (M := w.heap.size + 1) (a := (.int .i64 5)) (b := (.slice (some ⟨N3, 0, none⟩) 2 2)) (c := (.slice (some ⟨N5, 0, none⟩) 2 2)) (by omega)).trans b1
     have b21 := (set3_other (W := VC) (N := w.heap.size) (M := w.heap.size + 1 + 1) (a := (.int .i64 5)) (b := (.slice (some ⟨N3, 0, none⟩) 2 2)) (c := (.slice (some ⟨N5, 0, none⟩) 2 2)) (by omega)).trans b2
     have x01 := set3_boxz (a := (.int .i64 5)) (b := (.slice (some ⟨N3, 0, none⟩) 2 2)) (c := (.slice (some ⟨N5, 0, none⟩) 2 2)) b0
     have sz1 := set3_size VC (w.heap.size) (.int .i64 5) (.slice (some ⟨N3, 0, none⟩) 2 2) (.slice (some ⟨N5, 0, none⟩) 2 2)
     obtain ⟨U1, hU1⟩ : ∃ V, V = (((VC.setCell ⟨w.heap.size, 0, none⟩ (.int .i64 5)).setCell ⟨w.heap.size, 1, none⟩ (.slice (some ⟨N3, 0, none⟩) 2 2)).setCell ⟨w.heap.size, 2, none⟩ (.slice (some ⟨N5, 0, none⟩) 2 2)) := ⟨_, rfl⟩
     rw [← hU1]
     rw [← hU1] at sc1 b11 b21 x01 sz1
     have HU1 := Lib.hid hU1
     clear hU1
     have hne1 : N6 ≠ w.heap.size + 1 := by omega
     obtain ⟨⟨r0, r1, r2⟩, f0, f1, f2⟩ := zeroD_cells b11
     refine wpAnyH_ready (rs := [9]) (by kernel_rfl) (by simp) ?_
     refine AllReadyH.cons rfl (fun K hK => ?_) AllReadyH.nil
     go_simp
     refine hK.out _ _ (cells3_set3 hne1 sc1) (fun hHeld => ?_)
     clear hK K
     clear r0 r1 r2 f0 f1 f2
     have sc2 := cells3_set3 (a := (.int .i64 6)) (b := (.slice none 0 0)) (c := (.slice (some ⟨w8.heap.size, 0, none⟩) 1 1)) hne1 sc1
     have b22 := (set3_other (W := U1) (N := w.heap.size + 1) (M := w.heap.size + 1 + 1) (a := (.int .i64 6)) (b := (.slice none 0 0)) (c := (.slice (some ⟨w8.heap.size, 0, none⟩) 1 1)) (by omega)).trans b21
     have x02 := box3_at x01 (set3_other (W := U1) (N := w.heap.size + 1) (M := w.heap.size) (a := (.int .i64 6)) (b := (.slice none 0 0)) (c := (.slice (some ⟨w8.heap.size, 0, none⟩) 1 1)) (by omega))
     have x12 := set3_boxz (a := (.int .i64 6)) (b := (.slice none 0 0)) (c := (.slice (some ⟨w8.heap.size, 0, none⟩) 1 1)) b11
     obtain ⟨U2, hU2⟩ : ∃ V, V = (((U1.setCell ⟨w.heap.size + 1, 0, none⟩ (.int .i64 6)).setCell ⟨w.heap.size + 1, 1, none⟩ (.slice none 0 0)).setCell ⟨w.heap.size + 1, 2, none⟩ (.slice (some ⟨w8.heap.size, 0, none⟩) 1 1)) := ⟨_, rfl⟩
     rw [← hU2]
     rw [← hU2] at sc2 b22 x02 x12
     have HU2 := Lib.hid hU2
     clear hU2
     have hne2 : N6 ≠ w.heap.size + 1 + 1 := by omega
     obtain ⟨⟨r0, r1, r2, r3, r4⟩, f0, f1, f2, f3, f4⟩ := five_cells b22
     refine wpAnyH_ready (rs := [10]) (by kernel_rfl) (by simp) ?_
     refine AllReadyH.cons rfl (fun K hK => ?_) AllReadyH.nil
     go_simp
     refine hK.out _ _ (cells3_set5 hne2 sc2) (fun hHeld => ?_)
     clear hK K
     clear r0 r1 r2 r3 r4 f0 f1 f2 f3 f4
     refine wpAnyH_done (by kernel_rfl) ?_ _
     have x03 := box3_at x02 (set5_other (W := U2) (N := w.heap.size + 1 + 1) (M := w.heap.size) (a := (.int .i64 x0)) (b := (.int .i64 x1)) (c := (.string x2)) (d := (.slice xxa xxl xxc)) (e := (.slice xya xyl xyc)) (by omega))
     have x13 := box3_at x12 (set5_other (W := U2) (N := w.heap.size + 1 + 1) (M := w.heap.size + 1) (a := (.int .i64 x0)) (b := (.int .i64 x1)) (c := (.string x2)) (d := (.slice xxa xxl xxc)) (e := (.slice xya xyl xyc)) (by omega))
     have x23 := set5_boxz (g0 := (.int .i64 x0)) (g1 := (.int .i64 x1)) (g2 := (.string x2)) (g3 := (.slice xxa xxl xxc)) (g4 := (.slice xya xyl xyc)) b22
     obtain ⟨U3, hU3⟩ : ∃ V, V = (((((U2.setCell ⟨w.heap.size + 1 + 1, 0, none⟩ (.int .i64 x0)).setCell ⟨w.heap.size + 1 + 1, 1, none⟩ (.int .i64 x1)).setCell ⟨w.heap.size + 1 + 1, 2, none⟩ (.string x2)).setCell ⟨w.heap.size + 1 + 1, 3, none⟩ (.slice xxa xxl xxc)).setCell ⟨w.heap.size + 1 + 1, 4, none⟩ (.slice xya xyl xyc)) := ⟨_, rfl⟩
     rw [← hU3]
     rw [← hU3] at x03 x13 x23
     have HU3 := Lib.hid hU3
     clear hU3
     have HFF : Hid (DrawnKKT (m4 + 5) w (.returned (.tuple #[.agg #[.int .i64 5, .slice (some ⟨N3, 0, none⟩) 2 2, .slice (some ⟨N5, 0, none⟩) 2 2], .agg #[.int .i64 6, .slice none 0 0, .slice (some ⟨w8.heap.size, 0, none⟩) 1 1], .agg #[.int .i64 x0, .int .i64 x1, .string x2, .slice xxa xxl xxc, .slice xya xyl xyc]])) U3) := by
      show DrawnKKT _ _ _ _
      rw [HU3.out, HU2.out, HU1.out]
      exact HF.out
     obtain ⟨r0, r1, r2⟩ := x03
     obtain ⟨o0, o1, o2⟩ := x13
     obtain ⟨p0, p1, p2, p3, p4⟩ := x23
     clear sc2 b22 x02 x12 sc1 b11 b21 x01 HU3 HU2 hHeld
     go_wp2_with fail
     refine bodyPost_ret (v := .tuple #[.agg #[.int .i64 5, .slice (some ⟨N3, 0, none⟩) 2 2, .slice (some ⟨N5, 0, none⟩) 2 2], .agg #[.int .i64 6, .slice none 0 0, .slice (some ⟨w8.heap.size, 0, none⟩) 1 1], .agg #[.int .i64 x0, .int .i64 x1, .string x2, .slice xxa xxl xxc, .slice xya xyl xyc]]) (by simp [results, Tryz.results5, go_sem, r0, r1, r2, o0, o1, o2, p0, p1, p2, p3, p4]) rfl ?_
     exact HFF.out
    ·
     have hne0 : N6 ≠ w.heap.size := by omega
     obtain ⟨⟨r0, r1, r2⟩, f0, f1, f2⟩ := zeroD_cells b0
     go_simp
     refine hK.out _ _ (cells3_set3 hne0 sc) (fun hHeld => ?_)
     clear hK K
     clear r0 r1 r2 f0 f1 f2
     have sc1 := cells3_set3 (a := (.int .i64 5)) (b := (.slice (some ⟨N3, 0, none⟩) 2 2)) (c := (.slice (some ⟨N5, 0, none⟩) 2 2)) hne0 sc
     have b11 := (set3_other (W := w8) (N := w.heap.size) (M := w.heap.size + 1) (a := (.int .i64 5)) (b := (.slice (some ⟨N3, 0, none⟩) 2 2)) (c := (.slice (some ⟨N5, 0, none⟩) 2 2)) (by omega)).trans b1
     have b21 := (set3_other (W := w8) (N := w.heap.size) (M := w.heap.size + 1 + 1) (a := (.int .i64 5)) (b := (.slice (some ⟨N3, 0, none⟩) 2 2)) (c := (.slice (some ⟨N5, 0, none⟩) 2 2)) (by omega)).trans b2
     have x01 := set3_boxz (a := (.int .i64 5)) (b := (.slice (some ⟨N3, 0, none⟩) 2 2)) (c := (.slice (some ⟨N5, 0, none⟩) 2 2)) b0
     have sz1 := set3_size w8 (w.heap.size) (.int .i64 5) (.slice (some ⟨N3, 0, none⟩) 2 2) (.slice (some ⟨N5, 0, none⟩) 2 2)
     obtain ⟨U1, hU1⟩ : ∃ V, V = (((w8.setCell ⟨w.heap.size, 0, none⟩ (.int .i64 5)).setCell ⟨w.heap.size, 1, none⟩ (.slice (some ⟨N3, 0, none⟩) 2 2)).setCell ⟨w.heap.size, 2, none⟩ (.slice (some ⟨N5, 0, none⟩) 2 2)) := ⟨_, rfl⟩
     rw [← hU1]
     rw [← hU1] at sc1 b11 b21 x01 sz1
     have HU1 := Lib.hid hU1
     clear hU1
     refine wpAnyH_ready (rs := [2]) (by kernel_rfl) (by simp) ?_
     refine AllReadyH.cons rfl (fun K hK => ?_) AllReadyH.nil
     go_simp
     refine hK.out _ _ (cells3_alloc sc1 (by omega)) (fun hHeld => ?_)
     clear hK K
     refine wpAnyH_take (i := 3) (v := ?_) rfl (by kernel_rfl) (by kernel_rfl) (by kernel_rfl) (fun _ _ _ h => h) (Or.inl ⟨by rfl, ?_⟩) (by assumption) ?_
     rotate_left 1
     · (intro wq hSw; (try dsimp only at hSw); go_simp; first | done | with_reducible rfl)
     have scD := cells3_alloc (o := (.cells #[.int .i64 5, .slice (some ⟨N3, 0, none⟩) 2 2, .slice (some ⟨N5, 0, none⟩) 2 2] 26)) sc1 (by omega)
     have b1D : (U1.alloc (.cells #[.int .i64 5, .slice (some ⟨N3, 0, none⟩) 2 2, .slice (some ⟨N5, 0, none⟩) 2 2] 26)).heap[w.heap.size + 1]? = some (.cells #[.int .i64 0, .slice none 0 0, .slice none 0 0] 26 (0, 0)) := (Below.heap_alloc _ _ _ (by omega)).trans b11
     have b2D : (U1.alloc (.cells #[.int .i64 5, .slice (some ⟨N3, 0, none⟩) 2 2, .slice (some ⟨N5, 0, none⟩) 2 2] 26)).heap[w.heap.size + 1 + 1]? = some (.cells #[.int .i64 0, .int .i64 0, .string ⟨#[]⟩, .slice none 0 0, .slice none 0 0] 29 (0, 0)) := (Below.heap_alloc _ _ _ (by omega)).trans b21
     have x0D : Box3 (U1.alloc (.cells #[.int .i64 5, .slice (some ⟨N3, 0, none⟩) 2 2, .slice (some ⟨N5, 0, none⟩) 2 2] 26)) (w.heap.size) (.int .i64 5) (.slice (some ⟨N3, 0, none⟩) 2 2) (.slice (some ⟨N5, 0, none⟩) 2 2) := box3_at x01 (Below.heap_alloc _ _ _ (by omega))
     clear sc b0 b1 b2 hq7 hq8 HA HA3 sc1 b11 b21 x01
     obtain ⟨VD, hVD⟩ : ∃ V, V = U1.alloc (.cells #[.int .i64 5, .slice (some ⟨N3, 0, none⟩) 2 2, .slice (some ⟨N5, 0, none⟩) 2 2] 26) := ⟨_, rfl⟩
     rw [← hVD]
     rw [← hVD] at scD b1D b2D x0D
     have HF : Hid (DrawnKKT (m4 + 5) w (.returned (.tuple #[.agg #[.int .i64 5, .slice (some ⟨N3, 0, none⟩) 2 2, .slice (some ⟨N5, 0, none⟩) 2 2], .agg #[.int .i64 6, .slice none 0 0, .slice (some ⟨w8.heap.size, 0, none⟩) 1 1], .agg #[.int .i64 x0, .int .i64 x1, .string x2, .slice xxa xxl xxc, .slice xya xyl xyc]])) ((((((((VD.setCell ⟨w.heap.size + 1, 0, none⟩ (.int .i64 6)).setCell ⟨w.heap.size + 1, 1, none⟩ (.slice none 0 0)).setCell ⟨w.heap.size + 1, 2, none⟩ (.slice (some ⟨w8.heap.size, 0, none⟩) 1 1)).setCell ⟨w.heap.size + 1 + 1, 0, none⟩ (.int .i64 x0)).setCell ⟨w.heap.size + 1 + 1, 1, none⟩ (.int .i64 x1)).setCell ⟨w.heap.size + 1 + 1, 2, none⟩ (.string x2)).setCell ⟨w.heap.size + 1 + 1, 3, none⟩ (.slice xxa xxl xxc)).setCell ⟨w.heap.size + 1 + 1, 4, none⟩ (.slice xya xyl xyc))) := by
      show DrawnKKT _ _ _ _
      rw [hVD, HU1.out]
      exact HA4.out
     clear HA4 hVD HU1 sz1
     obtain ⟨sc1, b11, b21, x01⟩ : (VD.cell? ⟨N6, 0, none⟩ = some (.int .i64 5) ∧ VD.cell? ⟨N6, 1, none⟩ = some (.slice (some ⟨N3, 0, none⟩) 2 2) ∧ VD.cell? ⟨N6, 2, none⟩ = some (.slice (some ⟨N5, 0, none⟩) 2 2)) ∧ VD.heap[w.heap.size + 1]? = some (.cells #[.int .i64 0, .slice none 0 0, .slice none 0 0] 26 (0, 0)) ∧ VD.heap[w.heap.size + 1 + 1]? = some (.cells #[.int .i64 0, .int .i64 0, .string ⟨#[]⟩, .slice none 0 0, .slice none 0 0] 29 (0, 0)) ∧ Box3 VD (w.heap.size) (.int .i64 5) (.slice (some ⟨N3, 0, none⟩) 2 2) (.slice (some ⟨N5, 0, none⟩) 2 2) := ⟨scD, b1D, b2D, x0D⟩
     clear scD b1D b2D x0D
     have hne1 : N6 ≠ w.heap.size + 1 := by omega
     obtain ⟨⟨r0, r1, r2⟩, f0, f1, f2⟩ := zeroD_cells b11
     refine wpAnyH_ready (rs := [9]) (by kernel_rfl) (by simp) ?_
     refine AllReadyH.cons rfl (fun K hK => ?_) AllReadyH.nil
     go_simp
     refine hK.out _ _ (cells3_set3 hne1 sc1) (fun hHeld => ?_)
     clear hK K
     clear r0 r1 r2 f0 f1 f2
     have sc2 := cells3_set3 (a := (.int .i64 6)) (b := (.slice none 0 0)) (c := (.slice (some ⟨w8.heap.size, 0, none⟩) 1 1)) hne1 sc1
     have b22 := (set3_other (W := VD) (N := w.heap.size + 1) (M := w.heap.size + 1 + 1) (a := (.int .i64 6)) (b := (.slice none 0 0)) (c := (.slice (some ⟨w8.heap.size, 0, none⟩) 1 1)) (by omega)).trans b21
     have x02 := box3_at x01 (set3_other (W := VD) (N := w.heap.size + 1) (M := w.heap.size) (a := (.int .i64 6)) (b := (.slice none 0 0)) (c := (.slice (some ⟨w8.heap.size, 0, none⟩) 1 1)) (by omega))
     have x12 := set3_boxz (a := (.int .i64 6)) (b := (.slice none 0 0)) (c := (.slice (some ⟨w8.heap.size, 0, none⟩) 1 1)) b11
     obtain ⟨U2, hU2⟩ : ∃ V, V = (((VD.setCell ⟨w.heap.size + 1, 0, none⟩ (.int .i64 6)).setCell ⟨w.heap.size + 1, 1, none⟩ (.slice none 0 0)).setCell ⟨w.heap.size + 1, 2, none⟩ (.slice (some ⟨w8.heap.size, 0, none⟩) 1 1)) := ⟨_, rfl⟩
     rw [← hU2]
     rw [← hU2] at sc2 b22 x02 x12
     have HU2 := Lib.hid hU2
     clear hU2
     have hne2 : N6 ≠ w.heap.size + 1 + 1 := by omega
     obtain ⟨⟨r0, r1, r2, r3, r4⟩, f0, f1, f2, f3, f4⟩ := five_cells b22
     refine wpAnyH_ready (rs := [10]) (by kernel_rfl) (by simp) ?_
     refine AllReadyH.cons rfl (fun K hK => ?_) AllReadyH.nil
     go_simp
     refine hK.out _ _ (cells3_set5 hne2 sc2) (fun hHeld => ?_)
     clear hK K
     clear r0 r1 r2 r3 r4 f0 f1 f2 f3 f4
     refine wpAnyH_done (by kernel_rfl) ?_ _
     have x03 := box3_at x02 (set5_other (W := U2) (N := w.heap.size + 1 + 1) (M := w.heap.size) (a := (.int .i64 x0)) (b := (.int .i64 x1)) (c := (.string x2)) (d := (.slice xxa xxl xxc)) (e := (.slice xya xyl xyc)) (by omega))
     have x13 := box3_at x12 (set5_other (W := U2) (N := w.heap.size + 1 + 1) (M := w.heap.size + 1) (a := (.int .i64 x0)) (b := (.int .i64 x1)) (c := (.string x2)) (d := (.slice xxa xxl xxc)) (e := (.slice xya xyl xyc)) (by omega))
     have x23 := set5_boxz (g0 := (.int .i64 x0)) (g1 := (.int .i64 x1)) (g2 := (.string x2)) (g3 := (.slice xxa xxl xxc)) (g4 := (.slice xya xyl xyc)) b22
     obtain ⟨U3, hU3⟩ : ∃ V, V = (((((U2.setCell ⟨w.heap.size + 1 + 1, 0, none⟩ (.int .i64 x0)).setCell ⟨w.heap.size + 1 + 1, 1, none⟩ (.int .i64 x1)).setCell ⟨w.heap.size + 1 + 1, 2, none⟩ (.string x2)).setCell ⟨w.heap.size + 1 + 1, 3, none⟩ (.slice xxa xxl xxc)).setCell ⟨w.heap.size + 1 + 1, 4, none⟩ (.slice xya xyl xyc)) := ⟨_, rfl⟩
     rw [← hU3]
     rw [← hU3] at x03 x13 x23
     have HU3 := Lib.hid hU3
     clear hU3
     have HFF : Hid (DrawnKKT (m4 + 5) w (.returned (.tuple #[.agg #[.int .i64 5, .slice (some ⟨N3, 0, none⟩) 2 2, .slice (some ⟨N5, 0, none⟩) 2 2], .agg #[.int .i64 6, .slice none 0 0, .slice (some ⟨w8.heap.size, 0, none⟩) 1 1], .agg #[.int .i64 x0, .int .i64 x1, .string x2, .slice xxa xxl xxc, .slice xya xyl xyc]])) U3) := by
      show DrawnKKT _ _ _ _
      rw [HU3.out, HU2.out]
      exact HF.out
     obtain ⟨r0, r1, r2⟩ := x03
     obtain ⟨o0, o1, o2⟩ := x13
     obtain ⟨p0, p1, p2, p3, p4⟩ := x23
     clear sc2 b22 x02 x12 sc1 b11 b21 x01 HU3 HU2 hHeld
     go_wp2_with fail
     refine bodyPost_ret (v := .tuple #[.agg #[.int .i64 5, .slice (some ⟨N3, 0, none⟩) 2 2, .slice (some ⟨N5, 0, none⟩) 2 2], .agg #[.int .i64 6, .slice none 0 0, .slice (some ⟨w8.heap.size, 0, none⟩) 1 1], .agg #[.int .i64 x0, .int .i64 x1, .string x2, .slice xxa xxl xxc, .slice xya xyl xyc]]) (by simp [results, Tryz.results5, go_sem, r0, r1, r2, o0, o1, o2, p0, p1, p2, p3, p4]) rfl ?_
     exact HFF.out
 have z3i : ¬ (z : Int) = 3 := by omega
 obtain ⟨⟨ka6, kb6, kt6⟩, -, hb6⟩ := HK.out w5 (Near.refl _ _)
 obtain ⟨q1, q2, q3⟩ := HZ.out w5 hb6
 have HP : Hid (DrawnKKT m w (.returned (.tuple #[.agg #[.int .i64 u0, .slice uxa uxl uxc, .slice uya uyl uyc], .agg #[.int .i64 v0, .slice vxa vxl vxc, .slice vya vyl vyc], .agg #[.int .i64 t0, .int .i64 t1, .string t2, .slice txa txl txc, .slice tya tyl tyc]])) (put5 (put3 (put3 w5 w.heap.size 0 (.int .i64 u0) (.slice uxa uxl uxc) (.slice uya uyl uyc)) (w.heap.size + 1) 0 (.int .i64 v0) (.slice vxa vxl vxc) (.slice vya vyl vyc)) (w.heap.size + 1 + 1) 0 (.int .i64 t0) (.int .i64 t1) (.string t2) (.slice txa txl txc) (.slice tya tyl tyc)).drew) := (kkt_exit HX.out.1 HX.out.2 hb6 (ka6.keep (fun _ _ => rfl) (fun b hb => ⟨by omega, by omega⟩)) (kb6.keep (fun _ _ => rfl) (fun b hb => ⟨by omega, by omega⟩)) (kt6.keep (fun _ _ => rfl) (fun b hb => ⟨by omega, by omega⟩))).drew
 obtain ⟨⟨r0, r1, r2⟩, f0, f1, f2⟩ := zeroD_cells q1
 obtain ⟨⟨o0, o1, o2⟩, g0, g1, g2⟩ := zeroD_cells q2
 obtain ⟨⟨p0, p1, p2, p3, p4⟩, h0, h1, h2, h3, h4⟩ := five_cells q3
 clear HD HK HZ HX HDr q1 q2 q3 hb6 ka6 kb6 kt6
 go_upto_region 16 with fail
 go_region_held (fun w' => (w'.cell? ⟨w3.heap.size, 0, none⟩ = some (.int .i64 u0) ∧ w'.cell? ⟨w3.heap.size, 1, none⟩ = some (.slice uxa uxl uxc) ∧ w'.cell? ⟨w3.heap.size, 2, none⟩ = some (.slice uya uyl uyc)) ∧ (w'.cell? ⟨w3.heap.size + 1, 0, none⟩ = some (.int .i64 v0) ∧ w'.cell? ⟨w3.heap.size + 1, 1, none⟩ = some (.slice vxa vxl vxc) ∧ w'.cell? ⟨w3.heap.size + 1, 2, none⟩ = some (.slice vya vyl vyc)) ∧ w'.cell? ⟨w4.heap.size, 0, none⟩ = some (.int .i64 t0) ∧ w'.cell? ⟨w4.heap.size, 1, none⟩ = some (.int .i64 t1) ∧ w'.cell? ⟨w4.heap.size, 2, none⟩ = some (.string t2) ∧ w'.cell? ⟨w4.heap.size, 3, none⟩ = some (.slice txa txl txc) ∧ w'.cell? ⟨w4.heap.size, 4, none⟩ = some (.slice tya tyl tyc)) (first | with_reducible assumption | go_keep) (fail)
 all_goals
  go_wp2_with fail
  refine bodyPost_ret (v := .tuple #[.agg #[.int .i64 u0, .slice uxa uxl uxc, .slice uya uyl uyc], .agg #[.int .i64 v0, .slice vxa vxl vxc, .slice vya vyl vyc], .agg #[.int .i64 t0, .int .i64 t1, .string t2, .slice txa txl txc, .slice tya tyl tyc]]) (by simp [results, Tryz.results5, go_sem, r0, r1, r2, o0, o1, o2, p0, p1, p2, p3, p4]) rfl ?_
  exact HP.out

end Go.Proofs.YtpalkdcgbbbmeaaGreatDoor
