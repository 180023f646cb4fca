/-
  Marks on a tree: markTree, heldTree.
-/
import Derived.Test.YtkaannpoldenkagMark2
import Derived.Test.YtkaannpoldenkagMarkK
namespace Go.Proofs.Ytkaannpoldenkag
open Go.RowKit

set_option maxRecDepth 20000 in
set_option maxHeartbeats 1000000 in
theorem markTree_any (n : Nat) (x0 x1 : Int) (x2 : ByteArray) (c3 c4 : Value) (L3 L4 : List Spot) (k : Int) (w : World) (h3 : SpN w c3 L3) (h4 : SpR w n c4 L4) (h0 : 1 ≤ k) (h1 : k + L3.length + L4.length ≤ 1000000000) :
    Calls Try.prog 23 #[.agg #[.int .i64 x0, .int .i64 x1, .string x2, c3, c4], .int .i64 k] w fun e w' => e = .returned (.int .i64 (k + L3.length + L4.length)) ∧ Wrote (L3 ++ L4) k w w' := by
  obtain ⟨na, nl, nc, rfl⟩ := h3.slice
  obtain ⟨ka, kl, kc, rfl⟩ := h4.slice
  have hb0 := (Below.refl w.heap.size w).alloc (Nat.le_refl _) (.cells #[.int .i64 x0, .int .i64 x1, .string x2, .slice na nl nc, .slice ka kl kc] 45)
  have h3' := h3.below hb0
  have HC : Hid (Calls Try.prog 40 _ _ _) := markStringS_any L3 _ k _ h3' h0 (by omega)
  have HR : Hid (SpR (w.alloc (.cells #[.int .i64 x0, .int .i64 x1, .string x2, .slice na nl nc, .slice ka kl kc] 45)) n (.slice ka kl kc) L4 ∧ ∀ s, s ∈ L3 → s.ok (w.alloc (.cells #[.int .i64 x0, .int .i64 x1, .string x2, .slice na nl nc, .slice ka kl kc] 45))) := ⟨h4.below hb0, h3'.ok⟩
  have hx : (w.alloc (.cells #[.int .i64 x0, .int .i64 x1, .string x2, .slice na nl nc, .slice ka kl kc] 45)).cell? ⟨w.heap.size, 4, none⟩ = some (.slice ka kl kc) := by simp [go_sem]
  clear h3 h4 h3'
  go_enter Try.func23, Try.ntmps23
  go_wp2_with fail
  refine HC.out.mono ?_
  rintro e w1 ⟨rfl, hW⟩
  have hs := hW.sim HR.out.2
  have q4 := hs.sl _ _ _ _ _ hx
  have HC2 : Hid (Calls Try.prog 54 _ _ _) := markTreeS_any n L4 _ (k + L3.length) w1 (HR.out.1.sim hs) (by omega) (by omega)
  have HW : Hid _ := hW
  clear hs hW HC HR
  go_wp2_with fail
  refine HC2.out.mono ?_
  rintro e w2 ⟨rfl, hW2⟩
  have HF : Hid (Wrote (L3 ++ L4) k w w2) := Wrote.from_below hb0 (HW.out.trans hW2)
  clear hW2 HW HC2
  go_wp2_with fail
  go_ret
  exact ⟨rfl, HF.out⟩

set_option maxRecDepth 20000 in
set_option maxHeartbeats 1000000 in
theorem heldTree_any (n : Nat) (x0 x1 : Int) (x2 : ByteArray) (c3 c4 : Value) (L3 L4 : List Spot) (k : Int) (w : World) (h3 : SpN w c3 L3) (h4 : SpR w n c4 L4) (hh : Holds w (L3 ++ L4) k) (h0 : 1 ≤ k) (h1 : k + L3.length + L4.length ≤ 1000000000) :
    Calls Try.prog 24 #[.agg #[.int .i64 x0, .int .i64 x1, .string x2, c3, c4], .int .i64 k] w fun e w' => e = .returned (.int .i64 (k + L3.length + L4.length)) ∧ Below w.heap.size w w' := by
  obtain ⟨na, nl, nc, rfl⟩ := h3.slice
  obtain ⟨ka, kl, kc, rfl⟩ := h4.slice
  obtain ⟨hh3, hh4⟩ := holds_app hh
  have hb0 := (Below.refl w.heap.size w).alloc (Nat.le_refl _) (.cells #[.int .i64 x0, .int .i64 x1, .string x2, .slice na nl nc, .slice ka kl kc] 45)
  have HC : Hid (Calls Try.prog 42 _ _ _) := heldStringS_any L3 _ k _ (h3.below hb0) (hh3.below h3.ok hb0) h0 (by omega)
  have HR : Hid (∀ W, Below w.heap.size w W → Calls Try.prog 55 #[.slice ka kl kc, .int .i64 (k + L3.length)] W fun e w' => e = .returned (.int .i64 (k + L3.length + L4.length)) ∧ Below W.heap.size W w') := fun W hW =>
    heldTreeS_any n L4 _ (k + L3.length) W (h4.below hW) (hh4.below h4.ok hW) (by omega) (by omega)
  have hx : (w.alloc (.cells #[.int .i64 x0, .int .i64 x1, .string x2, .slice na nl nc, .slice ka kl kc] 45)).cell? ⟨w.heap.size, 4, none⟩ = some (.slice ka kl kc) := by simp [go_sem]
  have e1 : ¬ k + (L3.length : Int) < 0 := by omega
  have e2 : ¬ k + (L3.length : Int) + (L4.length : Int) < 0 := by omega
  clear h3 h4 hh hh3 hh4
  go_enter Try.func24, Try.ntmps24
  go_wp2_with fail
  refine HC.out.mono ?_
  rintro e w1 ⟨rfl, hb1⟩
  have q4 := (hb1.cell (p := ⟨w.heap.size, 4, none⟩) (by show w.heap.size < _; simp)).trans hx
  have hbw1 := below_step hb0 (by simp) hb1
  have HC2 : Hid (Calls Try.prog 55 _ _ _) := HR.out w1 hbw1
  clear HC HR hb1
  go_wp2_with fail
  refine HC2.out.mono ?_
  rintro e w2 ⟨rfl, hb2⟩
  have hbw2 := below_step hbw1 hbw1.size hb2
  clear hb2 HC2
  go_wp2_with fail
  go_ret
  exact ⟨rfl, hbw2⟩

end Go.Proofs.Ytkaannpoldenkag
