/-
  A code that came in: bytes.
-/
import Derived.Test.YthcdeahobjhkbaaGreatDoorB15
import Derived.ProofKit
import Derived.OpenShut
namespace Go.Proofs.YthcdeahobjhkbaaGreatDoor
open Go.ChangeShapes Go.WideShapes Go.ChangeAt Go.RowKit

theorem Tryz.ownc : ownKnob Tryz.prog.godebug = none := by kernel_rfl
theorem Tryz.laidOutc : laidOutB Tryz.prog = true := by kernel_rfl
theorem Tryz.cells_byte : Tryz.prog.cellsOf 5 = 1 := by kernel_rfl

set_option maxRecDepth 100000 in
theorem open_code {H : Type} {enc : TypeId × Value → H} {W : World} {base fuel : Nat} {v : Value} {x : DataW H × List MemPlace} (hval : Value.okWide Tryz.prog W .any base 22 v)
    (hf : DataW.trod enc Tryz.prog W 0 (fun _ => true) true fuel 22 v.cells.toList = some x) :
    ∃ ao L cap, v = .slice ao L cap ∧ CodeIn (fun b => b < W.heap.size) W ao L cap := by
  obtain ⟨a1, len, cap, rfl⟩ := okWide_slice Tryz.underlying22 hval
  refine ⟨a1, len, cap, rfl, ?_⟩
  rcases open_ints Tryz.underlying22 Tryz.underlying5 Tryz.cells_byte hf with ⟨hcs, hx⟩ | ⟨a, len', cap', zs, hcs, _, hl, hm, hz, hx, hcell, hwz⟩
  · simp [Value.cells] at hcs
    obtain ⟨rfl, rfl, rfl⟩ := hcs
    exact ⟨Nat.le_refl _, Nat.zero_le _, fun h => absurd h (by omega)⟩
  · simp [Value.cells] at hcs
    obtain ⟨rfl, rfl, rfl⟩ := hcs
    simp only [if_true] at hz
    refine ⟨hl, hm, fun h0 => ?_⟩
    obtain ⟨ab, ao, spot⟩ := a
    have hspot : spot = none := by simpa [Addr.add] using World.cell?_spot (hcell 0 (by omega))
    subst hspot
    have hb : ab < W.heap.size := World.block_lt_of_cell? W ⟨ab, ao, none⟩ (by have := hcell 0 (by omega); simpa [Addr.add] using this)
    refine ⟨ab, ao, rfl, hb, fun j hj => ⟨(zs.getD j 0).toNat, ?_, ?_⟩⟩
    · have := range_u8 hwz j
      rw [List.getD_eq_getElem?_getD]
      omega
    · have h1 := hcell j (by omega)
      rw [Addr.add_lit] at h1
      have := range_u8 hwz j
      rw [← List.getD_eq_getElem?_getD] at this
      rw [h1, Int.toNat_of_nonneg this.1]

end Go.Proofs.YthcdeahobjhkbaaGreatDoor
