/-
  Several texts in one, in their order.
-/
import Derived.Test.YtpnnbdejneoccaaB12

/-
  What an answer owns: spots that no other has; rows of texts that a call has made.
-/
namespace Go.Proofs.Ytpnnbdejneoccaa
open Go.RowKit

/-- Spots in blocks of P, none twice. -/
def Own (P : Nat → Prop) (L : List Spot) : Prop := (∀ s, s ∈ L → P s.b) ∧ L.Pairwise (fun a b => a.at ≠ b.at)

theorem Own.nil (P : Nat → Prop) : Own P [] := ⟨fun _ h => (by cases h), List.Pairwise.nil⟩
theorem Own.mono {P Q : Nat → Prop} {L : List Spot} (h : Own P L) (hq : ∀ b, P b → Q b) : Own Q L := ⟨fun s hs => hq _ (h.1 s hs), h.2⟩

theorem at_ne {a b : Spot} (h : a.b ≠ b.b) : a.at ≠ b.at := fun e => h (by simpa [Spot.at] using congrArg Addr.block e)

theorem Own.app {P Q R : Nat → Prop} {L M : List Spot} (h : Own P L) (k : Own Q M) (hp : ∀ b, P b → R b) (hq : ∀ b, Q b → R b) (hd : ∀ b, P b → Q b → False) : Own R (L ++ M) := by
  refine ⟨fun s hs => ?_, List.pairwise_append.2 ⟨h.2, k.2, fun a ha b hb => at_ne fun e => hd a.b (h.1 a ha) (by rw [e]; exact k.1 b hb)⟩⟩
  rcases List.mem_append.1 hs with h1 | h1
  · exact hp _ (h.1 s h1)
  · exact hq _ (k.1 s h1)

theorem Spot.ok_same {s : Spot} {w w' : World} (h : s.ok w) (hb : w'.heap[s.b]? = w.heap[s.b]?) : s.ok w' := by
  have e1 : w'.cell? s.at = w.cell? s.at := World.cell?_of_block (w := w) (w' := w') (a := s.at) hb
  have e2 : w'.frozen? s.at = w.frozen? s.at := by
    have : w'.heap[s.at.block]? = w.heap[s.at.block]? := hb
    simp only [World.frozen?, this]
  unfold Spot.ok
  rw [e1, e2]; exact h

theorem SpN.same {w w' : World} {v : Value} {L : List Spot} (h : SpN w v L) (hb : ∀ s, s ∈ L → w'.heap[s.b]? = w.heap[s.b]?) : SpN w' v L := by
  obtain ⟨ao, cap, hv, hl, ha, hk⟩ := h
  exact ⟨ao, cap, hv, hl, ha, fun s hs => Spot.ok_same (hk s hs) (hb s hs)⟩

theorem SpN.no (w : World) : SpN w (.slice none 0 0) [] := ⟨none, 0, rfl, by simp [maxLen], fun i h => absurd h (Nat.not_lt_zero _), fun _ h => (by cases h)⟩

/-- The spots of a row of texts that a call has made. -/
theorem spn_of_owns {w : World} {M : Nat} {e : TypeId} {v : Value} {l : List ByteArray} (h : w.ownsRow M e 1 v l.length (l.map .string)) (hl : l.length ≤ 20000) : ∃ L, SpN w v L ∧ L.length = l.length ∧ Own (fun b => v.ownBlock = some b) L := by
  rcases id h.2 with ⟨rfl, h0⟩ | ⟨g, cap, cur, rfl, hbg, hg, hnc, hcm, hcs, htake⟩
  · exact ⟨[], SpN.no w, by rw [h0]; rfl, Own.nil _⟩
  · refine ⟨(List.range l.length).map (fun i => (⟨g, 0 + i, true⟩ : Spot)), ⟨_, cap, by rw [List.length_map, List.length_range], by simp [maxLen]; omega, fun i hi => ⟨g, 0, rfl, by simp⟩, fun s hs => ?_⟩, by simp, fun s hs => ?_, ?_⟩
    · obtain ⟨i, hi, rfl⟩ := List.mem_map.1 hs
      have hi' := List.mem_range.1 hi
      have := h.cells (g := g) rfl i (.string l[i]) (by simp [hi'])
      rw [Addr.add_lit] at this
      exact ⟨⟨l[i], this⟩, by simp [World.frozen?, Spot.at, hg]⟩
    · obtain ⟨i, hi, rfl⟩ := List.mem_map.1 hs
      rfl
    · refine List.pairwise_map.2 (List.Pairwise.imp (fun {a b} hab e => ?_) List.pairwise_lt_range)
      have : 0 + a = 0 + b := by simpa [Spot.at] using congrArg Addr.off e
      omega

end Go.Proofs.Ytpnnbdejneoccaa

/-
  Marks on a tree: markTree, heldTree.
-/
namespace Go.Proofs.Ytpnnbdejneoccaa
open Go.RowKit

set_option maxRecDepth 20000 in
set_option maxHeartbeats 1000000 in
theorem markTree_any (n : Nat) (x0 x1 : Int) (x2 : ByteArray) (c3 c4 : Value) (L3 L4 : List Spot) (k : Int) (w : World) (h3 : SpN w c3 L3) (h4 : SpR w n c4 L4) (h0 : 1 ≤ k) (h1 : k + L3.length + L4.length ≤ 1000000000) :
    Calls Try.prog 27 #[.agg #[.int .i64 x0, .int .i64 x1, .string x2, c3, c4], .int .i64 k] w fun e w' => e = .returned (.int .i64 (k + L3.length + L4.length)) ∧ Wrote (L3 ++ L4) k w w' := by
  obtain ⟨na, nl, nc, rfl⟩ := h3.slice
  obtain ⟨ka, kl, kc, rfl⟩ := h4.slice
  have hb0 := (Below.refl w.heap.size w).alloc (Nat.le_refl _) (.cells #[.int .i64 x0, .int .i64 x1, .string x2, .slice na nl nc, .slice ka kl kc] 33)
  have h3' := h3.below hb0
  have HC : Hid (Calls Try.prog 51 _ _ _) := markStringS_any L3 _ k _ h3' h0 (by omega)
  have HR : Hid (SpR (w.alloc (.cells #[.int .i64 x0, .int .i64 x1, .string x2, .slice na nl nc, .slice ka kl kc] 33)) n (.slice ka kl kc) L4 ∧ ∀ s, s ∈ L3 → s.ok (w.alloc (.cells #[.int .i64 x0, .int .i64 x1, .string x2, .slice na nl nc, .slice ka kl kc] 33))) := ⟨h4.below hb0, h3'.ok⟩
  have hx : (w.alloc (.cells #[.int .i64 x0, .int .i64 x1, .string x2, .slice na nl nc, .slice ka kl kc] 33)).cell? ⟨w.heap.size, 4, none⟩ = some (.slice ka kl kc) := by simp [go_sem]
  clear h3 h4 h3'
  go_enter Try.func27, Try.ntmps27
  go_wp2_with fail
  refine HC.out.mono ?_
  rintro e w1 ⟨rfl, hW⟩
  have hs := hW.sim HR.out.2
  have q4 := hs.sl _ _ _ _ _ hx
  have HC2 : Hid (Calls Try.prog 52 _ _ _) := markTreeS_any n L4 _ (k + L3.length) w1 (HR.out.1.sim hs) (by omega) (by omega)
  have HW : Hid _ := hW
  clear hs hW HC HR
  go_wp2_with fail
  refine HC2.out.mono ?_
  rintro e w2 ⟨rfl, hW2⟩
  have HF : Hid (Wrote (L3 ++ L4) k w w2) := Wrote.from_below hb0 (HW.out.trans hW2)
  clear hW2 HW HC2
  go_wp2_with fail
  go_ret
  exact ⟨rfl, HF.out⟩

set_option maxRecDepth 20000 in
set_option maxHeartbeats 1000000 in
theorem heldTree_any (n : Nat) (x0 x1 : Int) (x2 : ByteArray) (c3 c4 : Value) (L3 L4 : List Spot) (k : Int) (w : World) (h3 : SpN w c3 L3) (h4 : SpR w n c4 L4) (hh : Holds w (L3 ++ L4) k) (h0 : 1 ≤ k) (h1 : k + L3.length + L4.length ≤ 1000000000) :
    Calls Try.prog 34 #[.agg #[.int .i64 x0, .int .i64 x1, .string x2, c3, c4], .int .i64 k] w fun e w' => e = .returned (.int .i64 (k + L3.length + L4.length)) ∧ Below w.heap.size w w' := by
  obtain ⟨na, nl, nc, rfl⟩ := h3.slice
  obtain ⟨ka, kl, kc, rfl⟩ := h4.slice
  obtain ⟨hh3, hh4⟩ := holds_app hh
  have hb0 := (Below.refl w.heap.size w).alloc (Nat.le_refl _) (.cells #[.int .i64 x0, .int .i64 x1, .string x2, .slice na nl nc, .slice ka kl kc] 33)
  have HC : Hid (Calls Try.prog 59 _ _ _) := heldStringS_any L3 _ k _ (h3.below hb0) (hh3.below h3.ok hb0) h0 (by omega)
  have HR : Hid (∀ W, Below w.heap.size w W → Calls Try.prog 60 #[.slice ka kl kc, .int .i64 (k + L3.length)] W fun e w' => e = .returned (.int .i64 (k + L3.length + L4.length)) ∧ Below W.heap.size W w') := fun W hW =>
    heldTreeS_any n L4 _ (k + L3.length) W (h4.below hW) (hh4.below h4.ok hW) (by omega) (by omega)
  have hx : (w.alloc (.cells #[.int .i64 x0, .int .i64 x1, .string x2, .slice na nl nc, .slice ka kl kc] 33)).cell? ⟨w.heap.size, 4, none⟩ = some (.slice ka kl kc) := by simp [go_sem]
  have e1 : ¬ k + (L3.length : Int) < 0 := by omega
  have e2 : ¬ k + (L3.length : Int) + (L4.length : Int) < 0 := by omega
  clear h3 h4 hh hh3 hh4
  go_enter Try.func34, Try.ntmps34
  go_wp2_with fail
  refine HC.out.mono ?_
  rintro e w1 ⟨rfl, hb1⟩
  have q4 := (hb1.cell (p := ⟨w.heap.size, 4, none⟩) (by show w.heap.size < _; simp)).trans hx
  have hbw1 := below_step hb0 (by simp) hb1
  have HC2 : Hid (Calls Try.prog 60 _ _ _) := HR.out w1 hbw1
  clear HC HR hb1
  go_wp2_with fail
  refine HC2.out.mono ?_
  rintro e w2 ⟨rfl, hb2⟩
  have hbw2 := below_step hbw1 hbw1.size hb2
  clear hb2 HC2
  go_wp2_with fail
  go_ret
  exact ⟨rfl, hbw2⟩

end Go.Proofs.Ytpnnbdejneoccaa
