/-
  KindFirst of the specification: what it answers.
-/
import Derived.Test.YtkaannpoldenkaaKSpecFirst
import Derived.Test.YtkaannpoldenkaaB12
import Derived.Deep.RegionWith
namespace Go.Proofs.Ytkaannpoldenkaa
open Go.RowKit

set_option maxRecDepth 100000 in
set_option maxHeartbeats 2000000 in
theorem specKFirst_any : SpecFirstSaid := by
  intro n S t c0 c1 c2 w ht hB
  obtain ⟨x0, xa, xl, xc, ya, yl, yc, rfl, rfl, rfl⟩ := ht.shape
  obtain ⟨W1, hW1⟩ : ∃ W1, W1 = (w.alloc (.cells #[.int .i64 x0, .slice xa xl xc, .slice ya yl yc] 26)).alloc (.cells #[.int .i64 0, .int .i64 0, .string ⟨#[]⟩, .slice none 0 0, .slice none 0 0] 37) := ⟨_, rfl⟩
  have hz1 : W1.heap.size = w.heap.size + 2 := by rw [hW1]; simp
  have hb0 : Below w.heap.size w W1 := by rw [hW1]; exact ((Below.refl _ _).alloc (Nat.le_refl _) _).alloc (by simp) _
  have hx1 : Box3 W1 w.heap.size (.int .i64 x0) (.slice xa xl xc) (.slice ya yl yc) := by
    rw [hW1]
    exact (Box3.new w (.int .i64 x0) (.slice xa xl xc) (.slice ya yl yc) 26).keep ((Below.refl _ _).alloc (Nat.le_refl _) _)
  have hzero : W1.heap[w.heap.size + 1]? = some (.cells #[.int .i64 0, .int .i64 0, .string ⟨#[]⟩, .slice none 0 0, .slice none 0 0] 37 (0, 0)) := by
    have := heap_alloc_new (w.alloc (.cells #[.int .i64 x0, .slice xa xl xc, .slice ya yl yc] 26)) (.cells #[.int .i64 0, .int .i64 0, .string ⟨#[]⟩, .slice none 0 0, .slice none 0 0] 37)
    rw [hW1]; simpa using this
  obtain ⟨ht0, hB0⟩ := ht.step hB hb0
  have hn0 : ∃ m, n = m + 1 := by
    cases n with
    | zero => exact ht.elim
    | succ m => exact ⟨m, rfl⟩
  have HC : Hid (Calls Try.prog 15 _ _ _) := specKOk_any n S t _ _ _ W1 ht0 hB0
  clear ht
  go_enter Try.func14, Try.ntmps14
  go_wp2_with fail
  rw [← hW1]
  clear hW1
  refine HC.out.mono ?_
  rintro e w1 ⟨rfl, hb1⟩
  have hs1 := hb1.size
  have hbw1 := below_step hb0 hb0.size hb1
  have hx := hx1.keep hb1
  obtain ⟨ht1, hB1⟩ := ht0.step hB0 hb1
  have hz1' := (hb1.block (w.heap.size + 1) (by omega)).trans hzero
  clear HC hb1 hb0 hzero hB0 ht0 hx1
  cases hok : okK n t with
  | true =>
    have hp := okK_get hok
    have HC2 : Hid (Calls Try.prog 36 _ _ _) := l2First_any n S t _ _ _ 1 w1 ht1 hB1 hp.1 hp.2
    have HA : Hid (ansT n t = firstT n t) := if_pos hok
    obtain ⟨k0, k1, k2⟩ := hx
    clear hok hp ht1 hB1
    go_wp2_with fail
    refine HC2.out.mono ?_
    rintro e w3 ⟨g0, g1, g2, g3, g4, rfl, hin3, hb3⟩
    obtain ⟨u0, u1, u2, ua, ul, uc, va, vl, vc, rfl, rfl, rfl, rfl, rfl⟩ := hin3.shape
    obtain ⟨⟨r0, r1, r2, r3, r4⟩, f0, f1, f2, f3, f4⟩ := zero_tree ((hb3.block (w.heap.size + 1) (by omega)).trans hz1')
    have hs3' := hb3.size
    have hbw3 := below_step hbw1 hbw1.size hb3
    have HF : Hid (TreeIn (fun b => w.heap.size ≤ b ∧ b < (put5 w3 (w.heap.size + 1) 0 (.int .i64 u0) (.int .i64 u1) (.string u2) (.slice ua ul uc) (.slice va vl vc)).heap.size) (put5 w3 (w.heap.size + 1) 0 (.int .i64 u0) (.int .i64 u1) (.string u2) (.slice ua ul uc) (.slice va vl vc)) n (ansT n t) (.int .i64 u0) (.int .i64 u1) (.string u2) (.slice ua ul uc) (.slice va vl vc) ∧
        Below w.heap.size w (put5 w3 (w.heap.size + 1) 0 (.int .i64 u0) (.int .i64 u1) (.string u2) (.slice ua ul uc) (.slice va vl vc))) := by
      refine ⟨?_, put5_below hbw3 (by omega)⟩
      rw [HA.out]
      exact hin3.keep (fun b h => put5_other (by omega)) (fun b h => by rw [put5_size]; omega)
    clear HC2 HA hin3 hb3 hbw1 hbw3 hz1' k0 k1 k2
    go_wp2_with fail
    refine bodyPost_ret (v := .agg #[.int .i64 u0, .int .i64 u1, .string u2, .slice ua ul uc, .slice va vl vc]) (by simp [results, Try.results14, go_sem, r0, r1, r2, r3, r4]) rfl ?_
    exact ⟨_, _, _, _, _, rfl, HF.out⟩
  | false =>
    obtain ⟨⟨r0, r1, r2, r3, r4⟩, f0, f1, f2, f3, f4⟩ := zero_tree hz1'
    have HF : Hid (TreeIn (fun b => w.heap.size ≤ b ∧ b < (put5 w1 (w.heap.size + 1) 0 (.int .i64 0) (.int .i64 0) (.string ⟨#[]⟩) (.slice none 0 0) (.slice none 0 0)).heap.size) (put5 w1 (w.heap.size + 1) 0 (.int .i64 0) (.int .i64 0) (.string ⟨#[]⟩) (.slice none 0 0) (.slice none 0 0)) n (ansT n t) (.int .i64 0) (.int .i64 0) (.string ⟨#[]⟩) (.slice none 0 0) (.slice none 0 0) ∧
        Below w.heap.size w (put5 w1 (w.heap.size + 1) 0 (.int .i64 0) (.int .i64 0) (.string ⟨#[]⟩) (.slice none 0 0) (.slice none 0 0))) := by
      obtain ⟨m, rfl⟩ := hn0
      refine ⟨?_, put5_below hbw1 (by omega)⟩
      rw [show ansT (m + 1) t = zeroT (m + 1) t from if_neg (by rw [hok]; simp)]
      exact zero_in t _ _
    clear hok hbw1 hz1' ht1 hB1 hx
    go_wp2_with fail
    refine bodyPost_ret (v := .agg #[.int .i64 0, .int .i64 0, .string ⟨#[]⟩, .slice none 0 0, .slice none 0 0]) (by simp [results, Try.results14, go_sem, r0, r1, r2, r3, r4]) rfl ?_
    exact ⟨_, _, _, _, _, rfl, HF.out⟩

end Go.Proofs.Ytkaannpoldenkaa
