/-
  Events, copied: nothing of the copy is frozen.
-/
import Derived.Test.YtpnnbdejneoccaaEv0
import Derived.Test.YtpnnbdejneoccaaTThaw
namespace Go.Proofs.Ytpnnbdejneoccaa
open Go.RowKit

theorem Thaw.put5 {M : Nat} {w : World} (h : Thaw M w) (b o : Nat) (g0 g1 g2 g3 g4 : Value) : Thaw M (put5 w b o g0 g1 g2 g3 g4) := ((((h.set _ _).set _ _).set _ _).set _ _).set _ _
theorem Thaw.put7 {M : Nat} {w : World} (h : Thaw M w) (b : Nat) (g0 g1 g2 g3 g4 g5 g6 : Value) : Thaw M (put7 w b g0 g1 g2 g3 g4 g5 g6) := ((h.set _ _).set _ _).put5 _ _ _ _ _ _ _

set_option maxHeartbeats 1000000 in
theorem toEventW_any (n : Nat) (S : Nat → Prop) (x : ByteArray) (v : Int) (t : T n) (c0 c1 c2 c3 c4 : Value) (w : World) (ht : TreeIn S w n t c0 c1 c2 c3 c4) (hB : ∀ b, S b → b < w.heap.size) (hsz : szT n t ≤ 1048576) :
    Calls Try.prog 7 #[.agg #[.string x, .int .i64 v, c0, c1, c2, c3, c4]] w fun e w' => ∃ d0 d1 d2 d3 d4, e = .returned (.agg #[.string x, .int .i64 v, d0, d1, d2, d3, d4]) ∧
      TreeIn (fun b => w.heap.size ≤ b ∧ b < w'.heap.size) w' n t d0 d1 d2 d3 d4 ∧ Below w.heap.size w w' ∧ Thaw w.heap.size w' := by
  obtain ⟨x0, x1, x2, xa, xl, xc, ya, yl, yc, rfl, rfl, rfl, rfl, rfl⟩ := ht.shape
  have hb3 : Below w.heap.size w (((w.alloc (.cells #[.string x, .int .i64 v, .int .i64 x0, .int .i64 x1, .string x2, .slice xa xl xc, .slice ya yl yc] 27)).alloc
      (.cells #[.string ⟨#[]⟩, .int .i64 0, .int .i64 0, .int .i64 0, .string ⟨#[]⟩, .slice none 0 0, .slice none 0 0] 35)).alloc (.cells #[.string x, .int .i64 v, .int .i64 0, .int .i64 0, .string ⟨#[]⟩, .slice none 0 0, .slice none 0 0] 35)) :=
    (((Below.refl _ _).alloc (Nat.le_refl _) _).alloc (by simp) _).alloc (by simp; omega) _
  obtain ⟨ht0, hB0⟩ := ht.step hB hb3
  have HC : Hid (Calls Try.prog 22 _ _ _) := toTreeW_any n S t _ _ _ _ _ _ ht0 hB0 hsz
  clear ht ht0
  go_enter Try.func7, Try.ntmps7
  go_wp2_with fail
  refine HC.out.mono ?_
  rintro e w1 ⟨d0, d1, d2, d3, d4, rfl, hd, hb1, hth⟩
  obtain ⟨z0, z1, z2, za, zl, zc, va, vl, vc, rfl, rfl, rfl, rfl, rfl⟩ := hd.shape
  have hz1 := hb1.size
  simp at hz1
  obtain ⟨hc, hf⟩ := bcell hb1
  have hbw1 := below_step hb3 (by simp; omega) hb1
  have m0 : w1.cell? ⟨w.heap.size + 1 + 1, 0, none⟩ = some (.string x) := by rw [hc _ _ (by simp)]; simp [go_sem]
  have mf0 : w1.frozen? ⟨w.heap.size + 1 + 1, 0, none⟩ = false := by rw [hf _ _ (by simp)]; simp [go_sem]
  have r0 : w1.cell? ⟨w.heap.size + 1, 0, none⟩ = some (.string ⟨#[]⟩) := by rw [hc _ _ (by simp)]; simp [go_sem]
  have rf0 : w1.frozen? ⟨w.heap.size + 1, 0, none⟩ = false := by rw [hf _ _ (by simp)]; simp [go_sem]
  have m1 : w1.cell? ⟨w.heap.size + 1 + 1, 1, none⟩ = some (.int .i64 v) := by rw [hc _ _ (by simp)]; simp [go_sem]
  have mf1 : w1.frozen? ⟨w.heap.size + 1 + 1, 1, none⟩ = false := by rw [hf _ _ (by simp)]; simp [go_sem]
  have r1 : w1.cell? ⟨w.heap.size + 1, 1, none⟩ = some (.int .i64 0) := by rw [hc _ _ (by simp)]; simp [go_sem]
  have rf1 : w1.frozen? ⟨w.heap.size + 1, 1, none⟩ = false := by rw [hf _ _ (by simp)]; simp [go_sem]
  have m2 : w1.cell? ⟨w.heap.size + 1 + 1, 2, none⟩ = some (.int .i64 0) := by rw [hc _ _ (by simp)]; simp [go_sem]
  have mf2 : w1.frozen? ⟨w.heap.size + 1 + 1, 2, none⟩ = false := by rw [hf _ _ (by simp)]; simp [go_sem]
  have r2 : w1.cell? ⟨w.heap.size + 1, 2, none⟩ = some (.int .i64 0) := by rw [hc _ _ (by simp)]; simp [go_sem]
  have rf2 : w1.frozen? ⟨w.heap.size + 1, 2, none⟩ = false := by rw [hf _ _ (by simp)]; simp [go_sem]
  have m3 : w1.cell? ⟨w.heap.size + 1 + 1, 3, none⟩ = some (.int .i64 0) := by rw [hc _ _ (by simp)]; simp [go_sem]
  have mf3 : w1.frozen? ⟨w.heap.size + 1 + 1, 3, none⟩ = false := by rw [hf _ _ (by simp)]; simp [go_sem]
  have r3 : w1.cell? ⟨w.heap.size + 1, 3, none⟩ = some (.int .i64 0) := by rw [hc _ _ (by simp)]; simp [go_sem]
  have rf3 : w1.frozen? ⟨w.heap.size + 1, 3, none⟩ = false := by rw [hf _ _ (by simp)]; simp [go_sem]
  have m4 : w1.cell? ⟨w.heap.size + 1 + 1, 4, none⟩ = some (.string ⟨#[]⟩) := by rw [hc _ _ (by simp)]; simp [go_sem]
  have mf4 : w1.frozen? ⟨w.heap.size + 1 + 1, 4, none⟩ = false := by rw [hf _ _ (by simp)]; simp [go_sem]
  have r4 : w1.cell? ⟨w.heap.size + 1, 4, none⟩ = some (.string ⟨#[]⟩) := by rw [hc _ _ (by simp)]; simp [go_sem]
  have rf4 : w1.frozen? ⟨w.heap.size + 1, 4, none⟩ = false := by rw [hf _ _ (by simp)]; simp [go_sem]
  have m5 : w1.cell? ⟨w.heap.size + 1 + 1, 5, none⟩ = some (.slice none 0 0) := by rw [hc _ _ (by simp)]; simp [go_sem]
  have mf5 : w1.frozen? ⟨w.heap.size + 1 + 1, 5, none⟩ = false := by rw [hf _ _ (by simp)]; simp [go_sem]
  have r5 : w1.cell? ⟨w.heap.size + 1, 5, none⟩ = some (.slice none 0 0) := by rw [hc _ _ (by simp)]; simp [go_sem]
  have rf5 : w1.frozen? ⟨w.heap.size + 1, 5, none⟩ = false := by rw [hf _ _ (by simp)]; simp [go_sem]
  have m6 : w1.cell? ⟨w.heap.size + 1 + 1, 6, none⟩ = some (.slice none 0 0) := by rw [hc _ _ (by simp)]; simp [go_sem]
  have mf6 : w1.frozen? ⟨w.heap.size + 1 + 1, 6, none⟩ = false := by rw [hf _ _ (by simp)]; simp [go_sem]
  have r6 : w1.cell? ⟨w.heap.size + 1, 6, none⟩ = some (.slice none 0 0) := by rw [hc _ _ (by simp)]; simp [go_sem]
  have rf6 : w1.frozen? ⟨w.heap.size + 1, 6, none⟩ = false := by rw [hf _ _ (by simp)]; simp [go_sem]
  have HF : Hid (TreeIn (fun b => w.heap.size ≤ b ∧ b < (put7 (put5 w1 (w.heap.size + 1 + 1) 2 (.int .i64 z0) (.int .i64 z1) (.string z2) (.slice za zl zc) (.slice va vl vc)) (w.heap.size + 1) (.string x) (.int .i64 v) (.int .i64 z0) (.int .i64 z1) (.string z2) (.slice za zl zc) (.slice va vl vc)).heap.size) (put7 (put5 w1 (w.heap.size + 1 + 1) 2 (.int .i64 z0) (.int .i64 z1) (.string z2) (.slice za zl zc) (.slice va vl vc)) (w.heap.size + 1) (.string x) (.int .i64 v) (.int .i64 z0) (.int .i64 z1) (.string z2) (.slice za zl zc) (.slice va vl vc)) n t (.int .i64 z0) (.int .i64 z1) (.string z2) (.slice za zl zc) (.slice va vl vc)) := by
    refine TreeIn.keep (fun b hb => ?_) (fun b hb => ?_) hd
    · simp at hb
      rw [put7_other (by omega), put5_other (by omega)]
    · simp at hb; rw [put7_size, put5_size]; omega
  have HE : Hid (Below w.heap.size w (put7 (put5 w1 (w.heap.size + 1 + 1) 2 (.int .i64 z0) (.int .i64 z1) (.string z2) (.slice za zl zc) (.slice va vl vc)) (w.heap.size + 1) (.string x) (.int .i64 v) (.int .i64 z0) (.int .i64 z1) (.string z2) (.slice za zl zc) (.slice va vl vc))) := put7_below (put5_below hbw1 (by omega)) (by omega)
  have HTh : Hid (Thaw w.heap.size (put7 (put5 w1 (w.heap.size + 1 + 1) 2 (.int .i64 z0) (.int .i64 z1) (.string z2) (.slice za zl zc) (.slice va vl vc)) (w.heap.size + 1) (.string x) (.int .i64 v) (.int .i64 z0) (.int .i64 z1) (.string z2) (.slice za zl zc) (.slice va vl vc))) := (((((Thaw.base w).alloc _ _).alloc _ _).alloc _ _).step hb1 hth (by simp; omega)).put5 _ _ _ _ _ _ _ |>.put7 _ _ _ _ _ _ _ _
  clear hd hb1 hc hf hbw1 hb3 HC hth
  go_wp2_with fail
  refine bodyPost_ret (v := .agg #[.string x, .int .i64 v, .int .i64 z0, .int .i64 z1, .string z2, .slice za zl zc, .slice va vl vc]) (by simp [results, Try.results7, go_sem, r0, r1, r2, r3, r4, r5, r6]) rfl ?_
  exact ⟨_, _, _, _, _, rfl, HF.out, HE.out, HTh.out⟩

end Go.Proofs.Ytpnnbdejneoccaa
