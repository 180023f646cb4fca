/-
  TreeParts of the specification: what it answers.
-/
import Derived.Test.YtkaannpoldenkafSpec3
namespace Go.Proofs.Ytkaannpoldenkaf
open Go.RowKit

set_option maxHeartbeats 400000 in
theorem specParts_any (n : Nat) (S : Nat → Prop) (t : T n) (c0 c1 c2 c3 c4 : Value) (w : World) (ht : TreeIn S w n t c0 c1 c2 c3 c4) (hB : ∀ b, S b → b < w.heap.size) :
    Calls Try.prog 11 #[.agg #[c0, c1, c2, c3, c4]] w fun e w' => e = .returned (.int .i64 (cntF n t)) ∧ Below w.heap.size w w' := by
  obtain ⟨x0, x1, x2, xa, xl, xc, ya, yl, yc, rfl, rfl, rfl, rfl, rfl⟩ := ht.shape
  have hb0 := (Below.refl w.heap.size w).alloc (Nat.le_refl _) (.cells #[.int .i64 x0, .int .i64 x1, .string x2, .slice xa xl xc, .slice ya yl yc] 30)
  have ht' := ht.keep (same_below hb0 hB) (fun _ h => h)
  have HE : Hid (cntF n t = if partsF n t 1 < 0 then 0 else partsF n t 1) := cntF_eq n t
  clear ht
  go_enter Try.func11, Try.ntmps11
  go_wp2_with fail
  refine (l1Parts_any n S t _ _ _ _ _ 1 _ ht' (fun b hb => by have := hB b hb; simp; omega) (by omega) (by omega)).mono ?_
  rintro e w1 ⟨rfl, hb1⟩
  have hb2 := below_step hb0 (by simp) hb1
  clear hb0 hb1 ht'
  by_cases hneg : partsF n t 1 < 0
  · go_wp2_with fail
    go_ret
    exact ⟨ret_int (by rw [HE.out, if_pos hneg]), hb2⟩
  · go_wp2_with fail
    go_ret
    exact ⟨ret_int (by rw [HE.out, if_neg (by omega)]), hb2⟩

end Go.Proofs.Ytkaannpoldenkaf
