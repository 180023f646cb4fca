/-
  Several texts in one, in their order.
-/
import Derived.Test.YtcpeajdjpecmkaaGreatDoorB1
import Derived.Laws.IdiomStrings
import Derived.Deep.QuietTactic
import Derived.BigQuiet

/-
  The program's demand, and the panic with which a text is refused.
-/
namespace Go.Proofs.YtcpeajdjpecmkaaGreatDoor
open Go.RowKit

/-- The panic with which a text is refused. -/
def refusal : List PanicEntry := [{ v := .iface 143 (.agg #[]), recovered := false }]

set_option maxHeartbeats 400000 in
theorem demand_yes (w : World) : Calls Tryz.prog 70 #[.bool true] w fun e w' => e = .returned (.tuple #[]) ∧ w' = w := by
  go_enter Tryz.func70, Tryz.ntmps70
  go_wp2
  go_end0
  exact ⟨rfl, rfl⟩

set_option maxHeartbeats 400000 in
theorem demand_no (w : World) : Calls Tryz.prog 70 #[.bool false] w fun e w' => e = .panicked refusal ∧ w' = w := by
  go_enter Tryz.func70, Tryz.ntmps70
  go_wp2
  exact ⟨rfl, rfl, rfl⟩

end Go.Proofs.YtcpeajdjpecmkaaGreatDoor

/-
  The specification's reader of trees: its block; look, eat.
-/
namespace Go.Proofs.YtcpeajdjpecmkaaGreatDoor
open Go.RowKit

/-- The block of the specification's reader. -/
def RdS (w : World) (R : Nat) (s : ByteArray) (at_ : Int) (bad : Bool) : Prop := w.heap[R]? = some (.cells #[.string s, .int .i64 at_, .bool bad] 80 (0, 0))

theorem RdS.cell0 {w : World} {R : Nat} {s : ByteArray} {i : Int} {b : Bool} (h : RdS w R s i b) : w.cell? ⟨R, 0, none⟩ = some (.string s) := by unfold RdS at h; simp [World.cell?, h]
theorem RdS.cell1 {w : World} {R : Nat} {s : ByteArray} {i : Int} {b : Bool} (h : RdS w R s i b) : w.cell? ⟨R, 1, none⟩ = some (.int .i64 i) := by unfold RdS at h; simp [World.cell?, h]
theorem RdS.cell2 {w : World} {R : Nat} {s : ByteArray} {i : Int} {b : Bool} (h : RdS w R s i b) : w.cell? ⟨R, 2, none⟩ = some (.bool b) := by unfold RdS at h; simp [World.cell?, h]
theorem RdS.free {w : World} {R : Nat} {s : ByteArray} {i : Int} {b : Bool} (h : RdS w R s i b) (o : Nat) : w.frozen? ⟨R, o, none⟩ = false := by unfold RdS at h; simp [World.frozen?, h]
theorem RdS.lt {w : World} {R : Nat} {s : ByteArray} {i : Int} {b : Bool} (h : RdS w R s i b) : R < w.heap.size := by unfold RdS at h; exact (Array.getElem?_eq_some_iff.1 h).1
theorem RdS.set1 {w : World} {R : Nat} {s : ByteArray} {i : Int} {b : Bool} (h : RdS w R s i b) (q : Int) : RdS (w.setCell ⟨R, 1, none⟩ (.int .i64 q)) R s q b := by unfold RdS at h ⊢; simp [World.setCell, Array.getElem?_modify, h]
theorem RdS.set2 {w : World} {R : Nat} {s : ByteArray} {i : Int} {b : Bool} (h : RdS w R s i b) (q : Bool) : RdS (w.setCell ⟨R, 2, none⟩ (.bool q)) R s i q := by unfold RdS at h ⊢; simp [World.setCell, Array.getElem?_modify, h]

theorem RdS.drewN {w : World} {R : Nat} {s : ByteArray} {i : Int} {b : Bool} (h : RdS w R s i b) (n : Nat) : RdS (w.drewN n) R s i b := h

theorem Near.drewN {R : Nat} {a w : World} (h : Near R a w) (n : Nat) : Near R a (w.drewN n) := ⟨h.os, h.tape, h.output, h.size, h.block⟩

/-- The place of the reader. -/
def atOf (w : World) (R : Nat) : Nat := match w.cell? ⟨R, 1, none⟩ with | some (.int _ n) => n.toNat | _ => 0

theorem RdS.atOf {w : World} {R : Nat} {s : ByteArray} {i : Int} {b : Bool} (h : RdS w R s i b) : atOf w R = i.toNat := by
  unfold Go.Proofs.YtcpeajdjpecmkaaGreatDoor.atOf; rw [h.cell1]

end Go.Proofs.YtcpeajdjpecmkaaGreatDoor
