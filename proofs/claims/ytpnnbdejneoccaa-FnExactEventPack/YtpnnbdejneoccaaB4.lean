/-
  Several texts in one, in their order.
-/
import Derived.Test.YtpnnbdejneoccaaMark2
import Derived.Test.YtpnnbdejneoccaaB3
import Derived.Test.YtpnnbdejneoccaaMark3

/-
  Marks on a tree: markTree, heldTree.
-/
namespace Go.Proofs.Ytpnnbdejneoccaa
open Go.RowKit

set_option maxRecDepth 20000 in
set_option maxHeartbeats 1000000 in
theorem markTree_any (n : Nat) (x0 x1 : Int) (x2 : ByteArray) (c3 c4 : Value) (L3 L4 : List Spot) (k : Int) (w : World) (h3 : SpN w c3 L3) (h4 : SpR w n c4 L4) (h0 : 1 ≤ k) (h1 : k + L3.length + L4.length ≤ 1000000000) :
    Calls Try.prog 27 #[.agg #[.int .i64 x0, .int .i64 x1, .string x2, c3, c4], .int .i64 k] w fun e w' => e = .returned (.int .i64 (k + L3.length + L4.length)) ∧ Wrote (L3 ++ L4) k w w' := by
  obtain ⟨na, nl, nc, rfl⟩ := h3.slice
  obtain ⟨ka, kl, kc, rfl⟩ := h4.slice
  have hb0 := (Below.refl w.heap.size w).alloc (Nat.le_refl _) (.cells #[.int .i64 x0, .int .i64 x1, .string x2, .slice na nl nc, .slice ka kl kc] 33)
  have h3' := h3.below hb0
  have HC : Hid (Calls Try.prog 51 _ _ _) := markStringS_any L3 _ k _ h3' h0 (by omega)
  have HR : Hid (SpR (w.alloc (.cells #[.int .i64 x0, .int .i64 x1, .string x2, .slice na nl nc, .slice ka kl kc] 33)) n (.slice ka kl kc) L4 ∧ ∀ s, s ∈ L3 → s.ok (w.alloc (.cells #[.int .i64 x0, .int .i64 x1, .string x2, .slice na nl nc, .slice ka kl kc] 33))) := ⟨h4.below hb0, h3'.ok⟩
  have hx : (w.alloc (.cells #[.int .i64 x0, .int .i64 x1, .string x2, .slice na nl nc, .slice ka kl kc] 33)).cell? ⟨w.heap.size, 4, none⟩ = some (.slice ka kl kc) := by simp [go_sem]
  clear h3 h4 h3'
  go_enter Try.func27, Try.ntmps27
  go_wp2_with fail
  refine HC.out.mono ?_
  rintro e w1 ⟨rfl, hW⟩
  have hs := hW.sim HR.out.2
  have q4 := hs.sl _ _ _ _ _ hx
  have HC2 : Hid (Calls Try.prog 52 _ _ _) := markTreeS_any n L4 _ (k + L3.length) w1 (HR.out.1.sim hs) (by omega) (by omega)
  have HW : Hid _ := hW
  clear hs hW HC HR
  go_wp2_with fail
  refine HC2.out.mono ?_
  rintro e w2 ⟨rfl, hW2⟩
  have HF : Hid (Wrote (L3 ++ L4) k w w2) := Wrote.from_below hb0 (HW.out.trans hW2)
  clear hW2 HW HC2
  go_wp2_with fail
  go_ret
  exact ⟨rfl, HF.out⟩

end Go.Proofs.Ytpnnbdejneoccaa

/-
  The spots of names that were copied.
-/
namespace Go.Proofs.Ytpnnbdejneoccaa
open Go.RowKit

theorem sumL_snocN {α : Type} (f : α → Nat) (l : List α) (x : α) : sumL f (l ++ [x]) = sumL f l + f x := by
  induction l with
  | nil => simp [sumL]
  | cons a r ih => simp only [List.cons_append, sumL, ih]; omega

theorem spn_of_strs {S : Nat → Prop} {w : World} {l : List ByteArray} {v : Value} (h : StrsIn S w l v) (hf : ∀ b o, S b → w.frozen? ⟨b, o, none⟩ = false) : ∃ L, SpN w v L ∧ (∀ s, s ∈ L → S s.b) ∧ L.length = l.length := by
  obtain ⟨ao, cap, rfl, hl, -, hc⟩ := h
  by_cases hne : l = []
  · subst hne
    exact ⟨[], ⟨ao, cap, rfl, hl, fun i h => absurd h (Nat.not_lt_zero _), fun _ h => (by cases h)⟩, fun _ h => (by cases h), rfl⟩
  · obtain ⟨b, off, rfl, hb, hcell⟩ := hc hne
    refine ⟨(List.range l.length).map (fun i => (⟨b, off + i, true⟩ : Spot)), ⟨_, cap, by rw [List.length_map, List.length_range], by rw [List.length_map, List.length_range]; exact hl, fun i hi => ⟨b, off, rfl, by simp⟩, fun s hs => ?_⟩, fun s hs => ?_, by simp⟩
    · obtain ⟨i, hi, rfl⟩ := List.mem_map.1 hs
      exact ⟨⟨_, hcell i (List.mem_range.1 hi)⟩, hf _ _ hb⟩
    · obtain ⟨i, hi, rfl⟩ := List.mem_map.1 hs
      exact hb

end Go.Proofs.Ytpnnbdejneoccaa
