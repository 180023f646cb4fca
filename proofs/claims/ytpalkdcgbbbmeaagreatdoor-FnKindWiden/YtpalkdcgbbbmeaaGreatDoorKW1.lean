/-
  The program's widenings: how the making of one ends; what is made of leaves.
-/
import Derived.Test.YtpalkdcgbbbmeaaGreatDoorKW0
import Derived.Test.YtpalkdcgbbbmeaaGreatDoorKImplText
import Derived.Deep.RegionWith
import Derived.Deep.RegionHeld
import Derived.BigQuiet
namespace Go.Proofs.YtpalkdcgbbbmeaaGreatDoor
open Go.RowKit

theorem sumL_in {α : Type} (f : α → Nat) (l : List α) (x : α) (h : x ∈ l) : f x ≤ sumL f l := by
  induction l with
  | nil => cases h
  | cons a r ih =>
    simp only [sumL]
    rcases List.mem_cons.1 h with rfl | h
    · omega
    · have := ih h; omega

theorem cnt_kid {m : Nat} {b : K (m + 1)} {k : K m} (h : cntK (m + 1) b ≤ 40) (hk : k ∈ Kd.kids b) : cntK m k ≤ 40 := by
  have e : cntK (m + 1) b = 1 + sumL (fun k => cntK m k) (Kd.kids b) := rfl
  have := sumL_in (fun k => cntK m k) (Kd.kids b) k hk
  omega

theorem kids_39 {m : Nat} {b : K (m + 1)} {d : Int} (hg : goodK (m + 1) b d = true) (h : cntK (m + 1) b ≤ 40) : (Kd.kids b).length ≤ 39 := by
  have e : cntK (m + 1) b = 1 + sumL (fun k => cntK m k) (Kd.kids b) := rfl
  simp only [goodK, Bool.and_eq_true] at hg
  have := sumK_ge (d := d + 1) (Kd.kids b) hg.2
  omega

/-- How the making of a widening ends. -/
def FitEnd (m : Nat) (b : K m) (n : Nat) (a : K n) (e : Ending) : Prop :=
  (fitsK m b n a = true ∧ ∃ fn first cap, e = .returned (.tuple #[.func fn first cap, .nilIface])) ∨ (fitsK m b n a = false ∧ ∃ y : ByteArray, e = .returned (.tuple #[.nilFunc, .iface 132 (.agg #[.string y])]))

/-- The making of a widening into a schema of at most m levels. -/
def FitSaid (m : Nat) : Prop := ∀ (S : Nat → Prop) (n : Nat) (a : K n) (b : K m) (va vb : Value) (d d' : Int) (R : Nat) (x : ByteArray) (w : World), InnerK S w n a va → InnerK S w m b vb → (∀ b, S b → b < w.heap.size) → TabW w R → R < w.heap.size →
  goodK n a d = true → goodK m b d' = true → cntK m b ≤ 40 → 1 ≤ d' → (x.size : Int) ≤ 20 * d' →
  Calls Tryz.prog 38 #[.pointer (some ⟨R, 0, none⟩), .agg #[va, vb, .string x]] w fun e w' => Below w.heap.size w w' ∧ FitEnd m b n a e

/-- The path one step down. -/
def pathTo (x s : ByteArray) : ByteArray := x ++ (⟨#[47]⟩ : ByteArray) ++ s

theorem pathTo_size (x s : ByteArray) : (pathTo x s).size = x.size + 1 + s.size := by
  unfold pathTo
  rw [ByteArray.size_append, ByteArray.size_append]
  rfl

set_option maxRecDepth 20000 in
set_option maxHeartbeats 400000 in
theorem below_any (x s : ByteArray) (pa pb qa qb : Option Addr) (w : World) (hx : x.size + s.size ≤ 1000000) :
    Calls Tryz.prog 98 #[.agg #[.pointer pa, .pointer pb, .string x], .string s, .pointer qa, .pointer qb] w fun e w' => e = .returned (.agg #[.pointer qa, .pointer qb, .string (pathTo x s)]) ∧ Below w.heap.size w w' := by
  have hs1 : (x ++ (⟨#[47]⟩ : ByteArray)).size = x.size + 1 := by rw [ByteArray.size_append]; rfl
  have hq1 : ¬ 9223372036854775807 < x.size + 1 := by omega
  have hq2 : ¬ 9223372036854775807 < x.size + 1 + s.size := by omega
  have hb0 : Below w.heap.size w ((w.alloc (.cells #[.pointer pa, .pointer pb, .string x] 67)).alloc (.cells #[.pointer none, .pointer none, .string ⟨#[]⟩] 67)) := ((Below.refl _ _).alloc (Nat.le_refl _) _).alloc (by simp) _
  unfold pathTo
  go_enter Tryz.func98, Tryz.ntmps98
  go_wp2_with fail
  refine bodyPost_ret (v := .agg #[.pointer qa, .pointer qb, .string (x ++ (⟨#[47]⟩ : ByteArray) ++ s)]) (by simp [results, Tryz.results98, go_sem]) rfl ?_
  exact ⟨rfl, ((Below.refl _ _).alloc (Nat.le_refl _) _).alloc (by simp) _⟩

set_option maxRecDepth 20000 in
set_option maxHeartbeats 400000 in
theorem ofLeaves_any (R : Nat) (va vb : Value) (x : ByteArray) (w : World) (ha : ∃ p, va = .pointer p) (hb : ∃ p, vb = .pointer p) :
    Calls Tryz.prog 73 #[.pointer (some ⟨R, 0, none⟩), .agg #[va, vb, .string x]] w fun e w' => (∃ fn first cap, e = .returned (.tuple #[.func fn first cap, .nilIface])) ∧ Below w.heap.size w w' := by
  obtain ⟨pa, rfl⟩ := ha
  obtain ⟨pb, rfl⟩ := hb
  go_enter Tryz.func73, Tryz.ntmps73
  go_wp2_with fail
  go_ret2
  exact ⟨⟨_, _, _, rfl⟩, (Below.refl _ _).alloc (Nat.le_refl _) _⟩

theorem below_alloc {w V : World} (h : Below w.heap.size w V) (o : Obj) : Below w.heap.size w (V.alloc o) := h.alloc h.size o

theorem below_allocD {w V : World} (h : Below w.heap.size w V.drew) (o : Obj) : Below w.heap.size w (V.alloc o).drew := by
  have h' : Below w.heap.size w V := ⟨h.os, h.tape, h.output, h.size, h.block⟩
  exact (below_alloc h' o).drew

/-- A new cell for a function. -/
def NewF (W : World) (g : Nat) : Prop := W.cell? ⟨g, 0, none⟩ = some .nilFunc ∧ W.frozen? ⟨g, 0, none⟩ = false ∧ g < W.heap.size

theorem kept_new {V w' : World} {t : TypeId} (hb : Below (V.alloc (.cells #[.nilFunc] t)).heap.size (V.alloc (.cells #[.nilFunc] t)) w') : NewF w' V.heap.size := by
  have hz : (V.alloc (.cells #[.nilFunc] t)).heap.size = V.heap.size + 1 := by simp
  have e := hb.block V.heap.size (by omega)
  rw [heap_alloc_new] at e
  exact ⟨by simp [World.cell?, e], by simp [World.frozen?, e], by have := hb.size; omega⟩

theorem kept_newD {V w' : World} {t : TypeId} (hb : Below (V.alloc (.cells #[.nilFunc] t)).drew.heap.size (V.alloc (.cells #[.nilFunc] t)).drew w') : NewF w' V.heap.size := by
  have hz : (V.alloc (.cells #[.nilFunc] t)).heap.size = V.heap.size + 1 := by simp
  have hb' : Below (V.alloc (.cells #[.nilFunc] t)).heap.size (V.alloc (.cells #[.nilFunc] t)).drew w' := hb
  have e := hb'.block V.heap.size (by omega)
  have e2 : (V.alloc (.cells #[.nilFunc] t)).drew.heap[V.heap.size]? = (V.alloc (.cells #[.nilFunc] t)).heap[V.heap.size]? := rfl
  rw [e2, heap_alloc_new] at e
  exact ⟨by simp [World.cell?, e], by simp [World.frozen?, e], by have : (V.alloc (.cells #[.nilFunc] t)).heap.size ≤ w'.heap.size := hb'.size; omega⟩

theorem kept_more {W w' : World} {g : Nat} (h : NewF W g) (hb : Below W.heap.size W w') : NewF w' g :=
  ⟨(hb.cell (p := ⟨g, 0, none⟩) h.2.2).trans h.1, (World.frozen?_of_block (a := ⟨g, 0, none⟩) (hb.block g h.2.2)).trans h.2.1, Nat.lt_of_lt_of_le h.2.2 hb.size⟩

/-- The box of a pair is as it was. -/
theorem pair_kept {W w' : World} {N : Nat} {c0 c1 c2 : Value} (h : W.cell? ⟨N, 0, none⟩ = some c0 ∧ W.cell? ⟨N, 1, none⟩ = some c1 ∧ W.cell? ⟨N, 2, none⟩ = some c2) (hb : Below W.heap.size W w') : w'.cell? ⟨N, 0, none⟩ = some c0 ∧ w'.cell? ⟨N, 1, none⟩ = some c1 ∧ w'.cell? ⟨N, 2, none⟩ = some c2 := by
  have hN : N < W.heap.size := World.block_lt_of_cell? W ⟨N, 0, none⟩ h.1
  exact ⟨(hb.cell (p := ⟨N, 0, none⟩) hN).trans h.1, (hb.cell (p := ⟨N, 1, none⟩) hN).trans h.2.1, (hb.cell (p := ⟨N, 2, none⟩) hN).trans h.2.2⟩

theorem pair_set {W : World} {N g : Nat} {c0 c1 c2 v : Value} (h : W.cell? ⟨N, 0, none⟩ = some c0 ∧ W.cell? ⟨N, 1, none⟩ = some c1 ∧ W.cell? ⟨N, 2, none⟩ = some c2) (hne : g ≠ N) : (W.setCell ⟨g, 0, none⟩ v).cell? ⟨N, 0, none⟩ = some c0 ∧ (W.setCell ⟨g, 0, none⟩ v).cell? ⟨N, 1, none⟩ = some c1 ∧ (W.setCell ⟨g, 0, none⟩ v).cell? ⟨N, 2, none⟩ = some c2 :=
  ⟨(World.cell?_setCell_far _ _ _ _ hne).trans h.1, (World.cell?_setCell_far _ _ _ _ hne).trans h.2.1, (World.cell?_setCell_far _ _ _ _ hne).trans h.2.2⟩

theorem pair_alloc {W : World} {N : Nat} {o : Obj} {c0 c1 c2 : Value} (h : W.cell? ⟨N, 0, none⟩ = some c0 ∧ W.cell? ⟨N, 1, none⟩ = some c1 ∧ W.cell? ⟨N, 2, none⟩ = some c2) : (W.alloc o).cell? ⟨N, 0, none⟩ = some c0 ∧ (W.alloc o).cell? ⟨N, 1, none⟩ = some c1 ∧ (W.alloc o).cell? ⟨N, 2, none⟩ = some c2 :=
  pair_kept h ((Below.refl _ _).alloc (Nat.le_refl _) _)

end Go.Proofs.YtpalkdcgbbbmeaaGreatDoor
