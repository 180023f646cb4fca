/-
  The bounds of the program's walk over a tree: demandTree, enter, leave; the program's inner trees in memory; one law more on append.
-/
import Derived.Test.YtbhemjedjnaajafDoorImpl3
namespace Go.Proofs.YtbhemjedjnaajafDoor
open Go.RowKit

/-- The panic with which a tree is refused. -/
def refusal : List PanicEntry := [{ v := .iface 85 (.agg #[]), recovered := false }]

theorem Tryd.hnot (x : Bool) (w : World) : (Op.unary .not (.bool x)).run Tryd.prog w = .ok (.bool (!x)) w := rfl

set_option maxHeartbeats 400000 in
theorem demand_yes (w : World) : Calls Tryd.prog 55 #[.bool true] w fun e w' => e = .returned (.tuple #[]) ∧ w' = w := by
  go_enter Tryd.func55, Tryd.ntmps55
  go_wp2
  go_end0
  exact ⟨rfl, rfl⟩

set_option maxHeartbeats 400000 in
theorem demand_no (w : World) : Calls Tryd.prog 55 #[.bool false] w fun e w' => e = .panicked refusal ∧ w' = w := by
  go_enter Tryd.func55, Tryd.ntmps55
  go_wp2
  exact ⟨rfl, rfl, rfl⟩

/-- The block of the bounds. -/
def Bnd (w : World) (bb : Nat) (p l : Int) : Prop := w.heap[bb]? = some (.cells #[.int .i64 p, .int .i64 l] 64 (0, 0))

theorem Bnd.cell0 {w : World} {bb : Nat} {p l : Int} (h : Bnd w bb p l) : w.cell? ⟨bb, 0, none⟩ = some (.int .i64 p) := by
  unfold Bnd at h; simp [World.cell?, h]
theorem Bnd.cell1 {w : World} {bb : Nat} {p l : Int} (h : Bnd w bb p l) : w.cell? ⟨bb, 1, none⟩ = some (.int .i64 l) := by
  unfold Bnd at h; simp [World.cell?, h]
theorem Bnd.free0 {w : World} {bb : Nat} {p l : Int} (h : Bnd w bb p l) : w.frozen? ⟨bb, 0, none⟩ = false := by
  unfold Bnd at h; simp [World.frozen?, h]
theorem Bnd.free1 {w : World} {bb : Nat} {p l : Int} (h : Bnd w bb p l) : w.frozen? ⟨bb, 1, none⟩ = false := by
  unfold Bnd at h; simp [World.frozen?, h]
theorem Bnd.lt {w : World} {bb : Nat} {p l : Int} (h : Bnd w bb p l) : bb < w.heap.size := by
  unfold Bnd at h
  exact (Array.getElem?_eq_some_iff.1 h).1
theorem Bnd.set0 {w : World} {bb : Nat} {p l : Int} (h : Bnd w bb p l) (q : Int) : Bnd (w.setCell ⟨bb, 0, none⟩ (.int .i64 q)) bb q l := by
  unfold Bnd at h ⊢; simp [World.setCell, Array.getElem?_modify, h]
theorem Bnd.set1 {w : World} {bb : Nat} {p l : Int} (h : Bnd w bb p l) (q : Int) : Bnd (w.setCell ⟨bb, 1, none⟩ (.int .i64 q)) bb p q := by
  unfold Bnd at h ⊢; simp [World.setCell, Array.getElem?_modify, h]

set_option maxHeartbeats 400000 in
theorem enter_yes (w : World) (bb : Nat) (p l : Int) (h : Bnd w bb p l) (hp : p + 1 ≤ 120) (hl : l + 1 ≤ 6) (hp0 : 0 ≤ p) (hl0 : 0 ≤ l) :
    Calls Tryd.prog 61 #[.pointer (some ⟨bb, 0, none⟩)] w fun e w' => e = .returned (.tuple #[]) ∧ w' = (w.setCell ⟨bb, 0, none⟩ (.int .i64 (p + 1))).setCell ⟨bb, 1, none⟩ (.int .i64 (l + 1)) := by
  have c0 := h.cell0
  have c1 := h.cell1
  have f0 := h.free0
  have f1 := h.free1
  clear h
  go_enter Tryd.func61, Tryd.ntmps61
  go_wp2_with (go_at_call 55; refine (demand_yes _).mono ?_; rintro e w' ⟨rfl, rfl⟩)
  go_end0
  exact ⟨rfl, rfl⟩

set_option maxHeartbeats 400000 in
theorem enter_no (w : World) (bb : Nat) (p l : Int) (h : Bnd w bb p l) (hn : ¬ (p + 1 ≤ 120 ∧ l + 1 ≤ 6)) (hp0 : 0 ≤ p) (hl0 : 0 ≤ l) (hp1 : p ≤ 120) (hl1 : l ≤ 6) :
    Calls Tryd.prog 61 #[.pointer (some ⟨bb, 0, none⟩)] w fun e w' => e = .panicked refusal ∧ w' = (w.setCell ⟨bb, 0, none⟩ (.int .i64 (p + 1))).setCell ⟨bb, 1, none⟩ (.int .i64 (l + 1)) := by
  have c0 := h.cell0
  have c1 := h.cell1
  have f0 := h.free0
  have f1 := h.free1
  clear h
  by_cases h1 : p + 1 ≤ 120
  · have h2 : ¬ l + 1 ≤ 6 := fun h2 => hn ⟨h1, h2⟩
    clear hn
    go_enter Tryd.func61, Tryd.ntmps61
    go_wp2_with (go_at_call 55; refine (demand_no _).mono ?_; rintro e w' ⟨rfl, rfl⟩)
    exact ⟨rfl, rfl, rfl⟩
  · clear hn
    go_enter Tryd.func61, Tryd.ntmps61
    go_wp2_with (go_at_call 55; refine (demand_no _).mono ?_; rintro e w' ⟨rfl, rfl⟩)
    exact ⟨rfl, rfl, rfl⟩

set_option maxHeartbeats 400000 in
theorem leave_any (w : World) (bb : Nat) (p l : Int) (h : Bnd w bb p l) (hl0 : 0 ≤ l) (hl1 : l ≤ 7) :
    Calls Tryd.prog 63 #[.pointer (some ⟨bb, 0, none⟩)] w fun e w' => e = .returned (.tuple #[]) ∧ w' = w.setCell ⟨bb, 1, none⟩ (.int .i64 (l - 1)) := by
  have c1 := h.cell1
  have f1 := h.free1
  clear h
  go_enter Tryd.func63, Tryd.ntmps63
  go_wp2
  go_end0
  exact ⟨rfl, rfl⟩

/-- What was there is as it was, but for block bb. -/
structure Near (bb : Nat) (w w' : World) : Prop where
  os : w'.os = w.os
  tape : w'.tape = w.tape
  output : w'.output = w.output
  size : w.heap.size ≤ w'.heap.size
  block : ∀ k, k < w.heap.size → k ≠ bb → w'.heap[k]? = w.heap[k]?

theorem Near.refl (bb : Nat) (w : World) : Near bb w w := ⟨rfl, rfl, rfl, Nat.le_refl _, fun _ _ _ => rfl⟩
theorem Near.trans {bb : Nat} {a b c : World} (h : Near bb a b) (k : Near bb b c) : Near bb a c :=
  ⟨k.os.trans h.os, k.tape.trans h.tape, k.output.trans h.output, Nat.le_trans h.size k.size, fun i hi hne => (k.block i (Nat.lt_of_lt_of_le hi h.size) hne).trans (h.block i hi hne)⟩
theorem Near.of_below {bb : Nat} {a b : World} (h : Below a.heap.size a b) : Near bb a b := ⟨h.os, h.tape, h.output, h.size, fun k hk _ => h.block k hk⟩
theorem Near.set (bb o : Nat) (w : World) (v : Value) : Near bb w (w.setCell ⟨bb, o, none⟩ v) := ⟨rfl, rfl, rfl, by simp, fun k _ hne => Below.heap_setCell _ _ _ _ hne⟩
theorem Near.alloc (bb : Nat) (w : World) (o : Obj) : Near bb w (w.alloc o) := .of_below ((Below.refl _ _).alloc (Nat.le_refl _) o)
theorem Near.below {bb B : Nat} {a b : World} (h : Near bb a b) (h1 : B ≤ bb) (h2 : B ≤ a.heap.size) : Below B a b := ⟨h.os, h.tape, h.output, h.size, fun k hk => h.block k (by omega) (by omega)⟩

end Go.Proofs.YtbhemjedjnaajafDoor
