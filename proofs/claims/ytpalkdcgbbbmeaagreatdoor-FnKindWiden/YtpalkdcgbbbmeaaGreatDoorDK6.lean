/-
  What the specification draws: l6Open, DrawKindFirst.
-/
import Derived.Test.YtpalkdcgbbbmeaaGreatDoorDK5
namespace Go.Proofs.YtpalkdcgbbbmeaaGreatDoor
open Go.RowKit

/-- The bytes of a code. -/
def CodeIn (S : Nat → Prop) (w : World) (ao : Option Addr) (L cap : Nat) : Prop :=
  L ≤ cap ∧ cap ≤ maxLen ∧ (0 < L → ∃ b off, ao = some ⟨b, off, none⟩ ∧ S b ∧ ∀ j, j < L → ∃ u : Nat, u ≤ 255 ∧ w.cell? ⟨b, off + j, none⟩ = some (.int .u8 (u : Int)))

theorem dr_new {S : Nat → Prop} {w : World} {ao : Option Addr} {L L' cap : Nat} (h : CodeIn S w ao L cap) (hS : ∀ b, S b → b < w.heap.size) (hl : L' ≤ L) (hl2 : L' ≤ 2000) :
    Dr (w.alloc (.cells #[.slice ao L' cap, .int .i64 0] 105)) w.heap.size ao L' cap 0 := by
  refine ⟨heap_alloc_new _ _, hl2, fun h0 => ?_⟩
  obtain ⟨b, off, ha, hb, hc⟩ := h.2.2 (by omega)
  have := hS b hb
  refine ⟨b, off, ha, by omega, fun j hj => ?_⟩
  obtain ⟨u, hu, hcell⟩ := hc j (by omega)
  exact ⟨u, hu, (World.cell?_of_block (Below.heap_alloc _ _ _ (by show b < _; omega))).trans hcell⟩

set_option maxRecDepth 20000 in
set_option maxHeartbeats 4000000 in
theorem l6Open_any (S : Nat → Prop) (w : World) (ao : Option Addr) (L cap : Nat) (h : CodeIn S w ao L cap) (hS : ∀ b, S b → b < w.heap.size) :
    Calls Tryz.prog 22 #[.slice ao L cap] w fun e w' => Below w.heap.size w w' ∧ ∃ R, e = .returned (.pointer (some ⟨R, 0, none⟩)) ∧ w.heap.size ≤ R ∧ ∃ L', Dr w' R ao L' cap 0 := by
  by_cases hL : 2000 < L
  · have hLi : (2000 : Int) < (L : Int) := by omega
    have hci : ¬ (cap : Int) < 2000 := by have := h.1; omega
    have hcap := h.1
    have HC : Hid (CodeIn S w ao L cap) := h
    clear h
    go_enter Tryz.func22, Tryz.ntmps22
    go_wp2_with fail
    go_ret
    exact ⟨(Below.refl _ _).alloc (Nat.le_refl _) _, w.heap.size, ⟨rfl, Nat.le_refl _, 2000, dr_new HC.out hS (by omega) (by omega)⟩⟩
  · have hLi : ¬ (2000 : Int) < (L : Int) := by omega
    have HC : Hid (CodeIn S w ao L cap) := h
    clear h
    go_enter Tryz.func22, Tryz.ntmps22
    go_wp2_with fail
    go_ret
    exact ⟨(Below.refl _ _).alloc (Nat.le_refl _) _, w.heap.size, ⟨rfl, Nat.le_refl _, L, dr_new HC.out hS (Nat.le_refl _) (by omega)⟩⟩

theorem near_new {R : Nat} {w w1 w' : World} (hb : Below w.heap.size w w1) (hR : w.heap.size ≤ R) (hn : Near R w1 w') : Below w.heap.size w w' :=
  ⟨hn.os.trans hb.os, hn.tape.trans hb.tape, hn.output.trans hb.output, by have := hb.size; have := hn.size; omega, fun b hbl => (hn.block b (by have := hb.size; omega) (by omega)).trans (hb.block b hbl)⟩

end Go.Proofs.YtpalkdcgbbbmeaaGreatDoor
